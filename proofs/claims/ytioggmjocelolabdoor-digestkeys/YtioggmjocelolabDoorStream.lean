import Derived.Test.YtioggmjocelolabDoorBegin2
import Derived.Test.YtioggmjocelolabDoorFin
import Derived.Test.YtioggmjocelolabDoorWrite
import Derived.Deep.QuietTactic
import Derived.BigQuiet
import Derived.Deep.Cut
namespace Go.Proofs.YtioggmjocelolabDoor
open Go.RowKit
set_option linter.unusedVariables false
set_option linter.unusedSimpArgs false

/-- The digests that there are. -/
def Known (h : Int) : Prop := h = 224 ∨ h = 256 ∨ h = 384 ∨ h = 512
def wdOf (h : Int) : Bool := decide (h = 384 ∨ h = 512)
def szOf (h : Int) : Nat := (h / 8).toNat
theorem Known.block {h : Int} (k : Known h) : blockOf h = bsz (wdOf h) := by rcases k with rfl | rfl | rfl | rfl <;> rfl
theorem firstWords_any {h : Int} (k : Known h) (w : World) (hT : Tables w) :
    Calls Tryd.prog 63 #[.int .i64 h] w fun e w' => e = .returned (.agg (firstE h).cells.toArray) ∧ Below w.heap.size w w' := by
  rcases k with rfl | rfl | rfl | rfl
  · exact firstWords224 w hT
  · exact firstWords256 w hT
  · exact firstWords384 w hT
  · exact firstWords512 w hT
/-- begin, of a digest that there is. -/
theorem begin_any {h : Int} (k : Known h) (w : World) (hT : Tables w) :
    Calls Tryd.prog 48 #[.int .i64 h] w fun e w' => e = .returned (.tuple #[.agg (tkL h (wdOf h) (firstE h) (fun _ => 0) 0).toArray, .int .i64 0]) ∧ Below w.heap.size w w' := by
  have hb := k.block
  cases hw : wdOf h
  · rw [hw] at hb
    exact begin_good64 h w hb (fun v hv => firstWords_any k v hv) hT
  · rw [hw] at hb
    exact begin_good128 h w hb (fun v hv => firstWords_any k v hv) hT
theorem rep_nil {w : World} {g o : Nat} {h : Int} {wd : Bool} {s : Eight} {half : Nat → Int} {f0 : Nat} (k : TK w g o h wd s half f0) (hf : f0 % bsz wd = 0) : Rep w g o h wd s f0 [] :=
  ⟨half, by simpa [TT_zero] using k, fun i hi => by simp at hi, hf⟩
theorem Rep.below {w v : World} {g o : Nat} {h : Int} {wd : Bool} {s : Eight} {f0 : Nat} {zs : List Int} (k : Rep w g o h wd s f0 zs) (b : Below w.heap.size w v) : Rep v g o h wd s f0 zs := by
  obtain ⟨half, hk, h1, h2⟩ := k
  exact ⟨half, hk.below b, h1, h2⟩
theorem Rep.far {w v : World} {g o g' o' n : Nat} {h : Int} {wd : Bool} {s : Eight} {f0 : Nat} {zs : List Int} (k : Rep w g o h wd s f0 zs) (b : Touch w v g' o' n) (hne : g ≠ g') : Rep v g o h wd s f0 zs := by
  obtain ⟨half, hk, h1, h2⟩ := k
  have hg : g < w.heap.size := lt_of_cell hk.hash
  exact ⟨half, ⟨by rw [b.far hg hne]; exact hk.hash, by rw [b.far (p := ⟨g, o + 1, none⟩) hg hne]; exact hk.fn, fun j x hx => by rw [b.far (p := ⟨g, o + 2 + j, none⟩) hg hne]; exact hk.st j x hx, fun i hi => by rw [b.far (p := ⟨g, o + 10 + i, none⟩) hg hne]; exact hk.half i hi, by rw [b.far (p := ⟨g, o + 138, none⟩) hg hne]; exact hk.fed, b.thereFar hk.there hg hne⟩, h1, h2⟩
theorem fold87 (h : Int) (wd : Bool) (E : Eight) (half : Nat → Int) (fed : Nat) : List.foldl (fun (cs : Array Value) x => cs.setIfInBounds x.snd x.fst) Tryd.zeroCells87 (tkL h wd E half fed).zipIdx = (tkL h wd E half fed).toArray := by kernel_rfl
theorem size87 : (Tryd.prog.info? 87).map (·.size) = some 139 := by kernel_rfl
/-- What a taken's cells are, as a value. -/
structure TkBig (T : List Value) : Prop where
  len : T.length = 139
  one : T.toArray.all (·.oneCell') = true
  built : List.foldl (fun (cs : Array Value) x => cs.setIfInBounds x.snd x.fst) Tryd.zeroCells87 T.zipIdx = T.toArray
theorem TkBig.size {T : List Value} (h : TkBig T) : T.toArray.size = 139 := by simpa using h.len
theorem TkBig.info {T : List Value} (h : TkBig T) : (Tryd.prog.info? 71).map (·.size) = some T.toArray.size := by rw [h.size]; exact size71
theorem TkBig.info87 {T : List Value} (h : TkBig T) : (Tryd.prog.info? 87).map (·.size) = some T.toArray.size := by rw [h.size]; exact size87
theorem tkBig (h : Int) (wd : Bool) (E : Eight) (half : Nat → Int) (fed : Nat) : TkBig (tkL h wd E half fed) := ⟨tkL_length _ _ _ _ _, tkL_one _ _ _ _ _, fold87 _ _ _ _ _⟩

set_option maxHeartbeats 1600000 in
set_option maxRecDepth 100000 in
/-- New, of a digest that there is. -/
theorem new_good (h : Int) (w : World) (k : Hid (Known h)) (hT : Hid (Tables w)) :
    Calls Tryd.prog 22 #[.int .i64 h] w fun e w' => ∃ g, e = .returned (.tuple #[.pointer (some ⟨g, 0, none⟩), .int .i64 0]) ∧ w.heap.size ≤ g ∧ Rep w' g 0 h (wdOf h) (firstE h) 0 [] ∧ Below w.heap.size w w' := by
  go_enter Tryd.func22, Tryd.ntmps22
  go_wp2_with (first | (go_at_call 48; refine (begin_any k.out w hT.out).mono ?_))
  rintro e1 w1 ⟨rfl, hb1⟩
  obtain ⟨T, HTT⟩ : ∃ T : List Value, Hid (T = tkL h (wdOf h) (firstE h) (fun _ => 0) 0) := ⟨_, rfl⟩
  rw [← HTT.out]
  have HG : Hid (TkBig T) := by show TkBig T; rw [HTT.out]; exact tkBig _ _ _ _ _
  have HB1 : Hid (Below w.heap.size w w1) := hb1
  have HX : Hid ((w1.alloc (.cells Tryd.zeroCells71 71)).there w1.heap.size 0 139) := there_new w1 Tryd.zeroCells71 71 139 (by rw [cells71z, size71z]; exact Nat.le_refl _)
  clear hb1
  go_upto_region 4 with (first
    | (refine wpList_store_mid (by rfl) 71 (.tmp 4) (.tmp 9) (by rfl) w1.heap.size 0 T.toArray (by rfl) (by rfl) (by rw [HG.out.size]; exact HX.out) HG.out.info HG.out.one ?_)
    | fail)
  have HR2 : Hid (((w1.alloc (.cells Tryd.zeroCells71 71)).setCells w1.heap.size 0 T).rangeAt w1.heap.size 0 T) := World.rangeAt_setCells_same _ _ _ _ (by rw [HG.out.len]; exact HX.out)
  have HB2 : Hid (Below w.heap.size w ((w1.alloc (.cells Tryd.zeroCells71 71)).setCells w1.heap.size 0 T)) := below_setCells _ HB1.out.size _ _ _ (HB1.out.alloc HB1.out.size _)
  generalize (w1.alloc (.cells Tryd.zeroCells71 71)).setCells w1.heap.size 0 T = w2 at HR2 HB2 ⊢
  clear HX
  have hlen := HG.out.len
  have hfold := HG.out.built
  go_wp2_with (first
    | (refine wpList_load_mid (by rfl) 71 (.tmp 4) (by rfl) w1.heap.size 0 (by rfl) T _ HR2.out Tryd.underlying71 rfl (by rw [HG.out.len]; exact size71) ?_)
    | fail)
  go_ret2
  have hr := rangeAt_new w2 T.toArray 87
  have ht := there_new w2 T.toArray 87 139 (by rw [HG.out.size]; exact Nat.le_refl _)
  have hT' : T = tkL h (wdOf h) (firstE h) (fun _ => 0) 0 := HTT.out
  refine ⟨w2.heap.size, rfl, HB2.out.size, rep_nil (TK.of (half := fun _ => 0) ?_ ht) (Nat.zero_mod _), HB2.out.alloc HB2.out.size _⟩
  rw [hT'] at hr ⊢
  exact hr

set_option maxHeartbeats 400000 in
theorem size_known {h : Int} (k : Known h) (w : World) : Calls Tryd.prog 37 #[.int .i64 h] w fun e w' => e = .returned (.int .i64 (szOf h)) ∧ w' = w := by
  rcases k with rfl | rfl | rfl | rfl
  · go_enter Tryd.func37, Tryd.ntmps37
    go_wp2_with (first | (go_at_call 15; refine (block_any _ _).mono ?_; rintro e1 w1 ⟨rfl, hw1⟩; obtain rfl := hw1.symm; rw [show blockOf 224 = 64 from rfl]))
    go_ret
    exact ⟨rfl, rfl⟩
  · go_enter Tryd.func37, Tryd.ntmps37
    go_wp2_with (first | (go_at_call 15; refine (block_any _ _).mono ?_; rintro e1 w1 ⟨rfl, hw1⟩; obtain rfl := hw1.symm; rw [show blockOf 256 = 64 from rfl]))
    go_ret
    exact ⟨rfl, rfl⟩
  · go_enter Tryd.func37, Tryd.ntmps37
    go_wp2_with (first | (go_at_call 15; refine (block_any _ _).mono ?_; rintro e1 w1 ⟨rfl, hw1⟩; obtain rfl := hw1.symm; rw [show blockOf 384 = 128 from rfl]))
    go_ret
    exact ⟨rfl, rfl⟩
  · go_enter Tryd.func37, Tryd.ntmps37
    go_wp2_with (first | (go_at_call 15; refine (block_any _ _).mono ?_; rintro e1 w1 ⟨rfl, hw1⟩; obtain rfl := hw1.symm; rw [show blockOf 512 = 128 from rfl]))
    go_ret
    exact ⟨rfl, rfl⟩
set_option maxHeartbeats 400000 in
theorem shash (g : Nat) (h : Int) (w : World) (c : w.cell? ⟨g, 0, none⟩ = some (.int .i64 h)) : Calls Tryd.prog 32 #[.pointer (some ⟨g, 0, none⟩)] w fun e w' => e = .returned (.int .i64 h) ∧ w' = w := by
  go_enter Tryd.func32, Tryd.ntmps32
  go_wp2
  go_ret
  exact ⟨rfl, rfl⟩
set_option maxHeartbeats 400000 in
theorem ssize (g : Nat) (h : Int) (w : World) (k : Hid (Known h)) (c : Hid (w.cell? ⟨g, 0, none⟩ = some (.int .i64 h))) : Calls Tryd.prog 33 #[.pointer (some ⟨g, 0, none⟩)] w fun e w' => e = .returned (.int .i64 (szOf h)) ∧ w' = w := by
  go_enter Tryd.func33, Tryd.ntmps33
  go_wp2_with (first
    | (go_at_call 32; refine (shash g h w c.out).mono ?_; rintro e1 w1 ⟨rfl, hw1⟩; obtain rfl := hw1.symm)
    | (go_at_call 37; refine (size_known k.out _).mono ?_; rintro e1 w1 ⟨rfl, hw1⟩; obtain rfl := hw1.symm))
  go_ret
  exact ⟨rfl, rfl⟩
set_option maxHeartbeats 400000 in
theorem scount (g : Nat) (n : Nat) (w : World) (c : w.cell? ⟨g, 0 + 138, none⟩ = some (.int .u64 n)) : Calls Tryd.prog 27 #[.pointer (some ⟨g, 0, none⟩)] w fun e w' => e = .returned (.int .u64 n) ∧ w' = w := by
  rw [Nat.zero_add] at c
  go_enter Tryd.func27, Tryd.ntmps27
  go_wp2
  go_ret
  exact ⟨rfl, rfl⟩
set_option maxHeartbeats 800000 in
/-- Stream.Write of what fits. -/
theorem swrite (g : Nat) (h : Int) (s0 : Eight) (zs : List Int) (yss : List (List Int)) (v : Value) (w : World) (k : Hid (Known h)) (hr : Hid (Rep w g 0 h (wdOf h) s0 0 zs)) (hp : Hid (Parts w g v yss)) (hT : Hid (Tables w)) (hg : 4 ≤ g) (hs : Hid (zs.length + yss.flatten.length ≤ 33554432)) :
    Calls Tryd.prog 24 #[.pointer (some ⟨g, 0, none⟩), v] w fun e w' => e = .returned (.int .i64 0) ∧ Touch w w' g 0 139 ∧ Rep w' g 0 h (wdOf h) s0 0 (zs ++ yss.flatten) := by
  have HA : Hid (Calls Tryd.prog 51 #[.pointer (some ⟨g, 0, none⟩), .int .u64 33554432, v] w fun e w' => e = .returned (.int .i64 0) ∧ Touch w w' g 0 139 ∧ Rep w' g 0 h (wdOf h) s0 0 (zs ++ yss.flatten)) :=
    write_rep (wdOf h) g 0 h s0 0 zs yss v (33554432 - zs.length) 33554432 w k.out.block hr.out hp.out hT.out hg (by have := hs.out; omega) (by have := hs.out; omega) (by have := hs.out; omega)
  go_enter Tryd.func24, Tryd.ntmps24
  go_wp2_with (first | (go_at_call 51; refine HA.out.mono ?_; rintro e1 w1 ⟨rfl, ht1, hr1⟩))
  have HQ : Hid (Touch w w1 g 0 139 ∧ Rep w1 g 0 h (wdOf h) s0 0 (zs ++ yss.flatten)) := ⟨ht1, hr1⟩
  clear ht1 hr1
  go_wp2
  go_ret
  exact ⟨rfl, HQ.out.1, HQ.out.2⟩
set_option maxHeartbeats 800000 in
set_option maxRecDepth 100000 in
/-- Stream.Copy. -/
theorem scopy (g : Nat) (h : Int) (s0 : Eight) (zs : List Int) (w : World) (hr : Hid (Rep w g 0 h (wdOf h) s0 0 zs)) :
    Calls Tryd.prog 28 #[.pointer (some ⟨g, 0, none⟩)] w fun e w' => ∃ g', e = .returned (.pointer (some ⟨g', 0, none⟩)) ∧ w.heap.size ≤ g' ∧ Rep w' g' 0 h (wdOf h) s0 0 zs ∧ Below w.heap.size w w' := by
  obtain ⟨half, hk, hh, hf⟩ := hr.out
  obtain ⟨T, HTT⟩ : ∃ T : List Value, Hid (T = tkL h (wdOf h) (TT (wdOf h) (fnz zs) s0 (zs.length / bsz (wdOf h))) half (0 + zs.length)) := ⟨_, rfl⟩
  have HG : Hid (TkBig T) := by show TkBig T; rw [HTT.out]; exact tkBig _ _ _ _ _
  have HR : Hid (w.rangeAt g 0 T) := by show w.rangeAt g 0 T; rw [HTT.out]; exact hk.range
  have HH : Hid ((∀ i, i < zs.length % bsz (wdOf h) → half i = fnz zs (bsz (wdOf h) * (zs.length / bsz (wdOf h)) + i)) ∧ 0 % bsz (wdOf h) = 0) := ⟨hh, hf⟩
  have HX : Hid ((w.alloc (.cells Tryd.zeroCells87 87)).there w.heap.size 0 139) := there_new w Tryd.zeroCells87 87 139 (by decide)
  clear hk hh hf
  go_enter Tryd.func28, Tryd.ntmps28
  go_upto_region 4 with (first
    | (refine wpList_load_mid (by rfl) 87 (.tmp 7) (by rfl) g 0 (by rfl) T _ HR.out Tryd.underlying87 rfl (by rw [HG.out.len]; exact size87) ?_)
    | (refine wpList_store_mid (by rfl) 87 (.tmp 3) (.tmp 8) (by rfl) w.heap.size 0 T.toArray (by rfl) (by rfl) (by rw [HG.out.size]; exact HX.out) HG.out.info87 HG.out.one ?_)
    | fail)
  have HR2 : Hid (((w.alloc (.cells Tryd.zeroCells87 87)).setCells w.heap.size 0 T).rangeAt w.heap.size 0 T) := World.rangeAt_setCells_same _ _ _ _ (by rw [HG.out.len]; exact HX.out)
  have HB2 : Hid (Below w.heap.size w ((w.alloc (.cells Tryd.zeroCells87 87)).setCells w.heap.size 0 T) ∧ ((w.alloc (.cells Tryd.zeroCells87 87)).setCells w.heap.size 0 T).there w.heap.size 0 139) := ⟨below_setCells _ (Nat.le_refl _) _ _ _ ((Below.refl _ _).alloc (Nat.le_refl _) _), World.there_setCells HX.out _ _ _⟩
  generalize (w.alloc (.cells Tryd.zeroCells87 87)).setCells w.heap.size 0 T = w2 at HR2 HB2 ⊢
  clear HX
  go_wp2
  go_ret
  refine ⟨w.heap.size, rfl, Nat.le_refl _, ⟨half, TK.of ?_ HB2.out.2, HH.out.1, HH.out.2⟩, HB2.out.1⟩
  rw [← HTT.out]
  exact HR2.out
end Go.Proofs.YtioggmjocelolabDoor
