import Derived.Test.YtcnikfikpnnblaaGreatDoorPart30
import Derived.Test.YtcnikfikpnnblaaGreatDoorDgBegin2
import Derived.Test.YtcnikfikpnnblaaGreatDoorPart29
import Derived.Test.YtcnikfikpnnblaaGreatDoorPart19
import Derived.Deep.QuietTactic
import Derived.BigQuiet
import Derived.Deep.Cut
namespace Go.Proofs.YtcnikfikpnnblaaGreatDoor
open Go.RowKit
set_option linter.unusedVariables false
set_option linter.unusedSimpArgs false
set_option maxHeartbeats 800000 in
set_option maxRecDepth 100000 in
theorem buildXTS_ok (B sh : Nat) (S : ByteArray) (st nk : Nat) (zs : List Int) (kv : Value) (mp : Option Addr) (ov : Value) (fn : Nat) (xs ys : Array Value) (w : World) (h : ShA B w sh S st (4 * nk) zs kv mp ov) (hB : B ≤ w.heap.size) (hfew : ∃ n os, n ≤ 1 ∧ w.ownsRow B 105 1 ov n os)
  (hnk : nk = 4 ∨ nk = 6 ∨ nk = 8) (hl : zs.length = 2 * (4 * nk)) (hb : AllBytes zs) (hrc : RC w) (hpos : 3 < w.heap.size) :
  Calls Tryz.prog 98 #[.pointer (some ⟨sh, 0, none⟩), .func (.func fn) xs ys] w fun e w' => Hid (∃ go ov', e = .returned (.tuple #[bV 158 [.pointer (some ⟨sh, 0, none⟩), .func (.func fn) xs ys, .pointer (some ⟨go, 0, none⟩)], bV 159 [.pointer (some ⟨sh, 0, none⟩), .func (.func fn) xs ys, .pointer (some ⟨go, 0, none⟩)]]) ∧ w.heap.size ≤ go ∧ KeyAt w' go (nk + 6) (schedK nk (nat8 (zs.drop (4 * nk)))) ∧ ShA B w' sh S st (4 * nk) zs kv mp ov' ∧ Fs B sh w w') := by
 have HR : Hid (Calls Tryz.prog 150 #[.pointer (some ⟨sh, 0, none⟩)] w fun e w' => Hid (∃ y d, e = .returned (.slice y (zs.length - 4 * nk) d) ∧ View w' (.slice y (zs.length - 4 * nk) d) (zs.drop (4 * nk)) ∧ Below w.heap.size w w')) := rest_ok B sh S st (4 * nk) zs kv mp ov w h (by omega)
 have hb' : AllBytes (zs.drop (4 * nk)) := fun i => by
  rw [List.getD_eq_getElem?_getD, List.getElem?_drop, ← List.getD_eq_getElem?_getD]; exact hb _
 have HK : Hid (∀ u v, Below w.heap.size w u → View u v (zs.drop (4 * nk)) → Calls Tryz.prog 144 #[.pointer (some ⟨sh, 0, none⟩), v] u fun e w' => Hid (∃ g ov', e = .returned (.pointer (some ⟨g, 0, none⟩)) ∧ u.heap.size ≤ g ∧ KeyAt w' g (nk + 6) (schedK nk (nat8 (zs.drop (4 * nk)))) ∧ (∃ R : Array Value, w'.heap[g]? = some (.cells R 160 (0, 0))) ∧ ShA B w' sh S st (4 * nk) zs kv mp ov' ∧ (∀ n os, u.ownsRow B 105 1 ov n os → ∃ os', w'.ownsRow B 105 1 ov' (n + 1) os') ∧ Fs B sh u w')) := fun u v hu hv => by
  obtain ⟨n0, os0, hn0, ho0⟩ := hfew
  exact schedule_ok B sh S st (4 * nk) zs kv mp ov v (zs.drop (4 * nk)) nk u (h.below hu) (Nat.le_trans hB hu.size) ⟨n0, os0, by omega, ownsRow_below ho0 hu⟩ hnk (by rw [List.length_drop]; omega) hv hb' (fun i hi => (hu.cell (p := ⟨3, i, none⟩) hpos).trans (hrc i hi)) (Nat.lt_of_lt_of_le hpos hu.size)
 have HB0 : Hid (B ≤ w.heap.size) := hB
 clear h hfew hl hb hrc hpos hB hb'
 go_enter Tryz.func98, Tryz.ntmps98
 go_upto_region 2 with (first
  | (go_at_call 150; refine HR.out.mono ?_; intro e1 w1 hh; obtain ⟨y, d, rfl, hv1, hb1⟩ := hh.out; have HV1 : Hid (View w1 (.slice y (zs.length - 4 * nk) d) (zs.drop (4 * nk)) ∧ Below w.heap.size w w1) := ⟨hv1, hb1⟩; clear hh hv1 hb1)
  | (go_at_call 144; refine (HK.out _ _ HV1.out.2 HV1.out.1).mono ?_; intro e2 w2 hh; obtain ⟨go, ov', rfl, hg2, hK2, hR2, hS2, hO2, hF2⟩ := hh.out; have HS2 : Hid (w1.heap.size ≤ go ∧ KeyAt w2 go (nk + 6) (schedK nk (nat8 (zs.drop (4 * nk)))) ∧ ShA B w2 sh S st (4 * nk) zs kv mp ov' ∧ Fs B sh w1 w2) := ⟨hg2, hK2, hS2, hF2⟩; clear hh hg2 hK2 hR2 hS2 hO2 hF2))
 obtain ⟨w3, hw3⟩ : ∃ w3, w3 = w2.alloc (.cells #[.pointer (some ⟨sh, 0, none⟩), .func (.func fn) xs ys, .pointer (some ⟨go, 0, none⟩)] 210) := ⟨_, rfl⟩
 have HW : Hid (Bx w3 w2.heap.size 210 [.pointer (some ⟨sh, 0, none⟩), .func (.func fn) xs ys, .pointer (some ⟨go, 0, none⟩)] ∧ Below w2.heap.size w2 w3) := by rw [hw3]; exact ⟨Bx.new w2 210 _, (Below.refl _ _).alloc (Nat.le_refl _) _⟩
 rw [← hw3]
 clear hw3
 have d0 : w3.cell? ⟨w2.heap.size, 0, none⟩ = some (.pointer (some ⟨sh, 0, none⟩)) := HW.out.1.cell 0 _ rfl
 have d1 : w3.cell? ⟨w2.heap.size, 1, none⟩ = some (.func (.func fn) xs ys) := HW.out.1.cell 1 _ rfl
 have d2 : w3.cell? ⟨w2.heap.size, 2, none⟩ = some (.pointer (some ⟨go, 0, none⟩)) := HW.out.1.cell 2 _ rfl
 go_region
 all_goals go_wp2
 all_goals go_ret2
 all_goals (
  have hb := HW.out.2.drew
  exact ⟨go, ov', rfl, Nat.le_trans HV1.out.2.size HS2.out.1, HS2.out.2.1.sameK (hb.block go HS2.out.2.1.ciph.here) hb.size, HS2.out.2.2.1.below hb, (Fs.of_below HV1.out.2 HB0.out).trans (HS2.out.2.2.2.trans (Fs.of_below hb (Nat.le_trans (Nat.le_trans HB0.out HV1.out.2.size) HS2.out.2.2.2.bel.size)))⟩)
set_option maxHeartbeats 800000 in
set_option maxRecDepth 100000 in
theorem buildElephant_ok (B sh : Nat) (S : ByteArray) (st nk : Nat) (zs : List Int) (kv : Value) (mp : Option Addr) (ov : Value) (fn : Nat) (xs ys : Array Value) (w : World) (h : ShA B w sh S st (4 * nk) zs kv mp ov) (hB : B ≤ w.heap.size) (hfew : ∃ n os, n ≤ 1 ∧ w.ownsRow B 105 1 ov n os)
  (hnk : nk = 4 ∨ nk = 6 ∨ nk = 8) (hl : zs.length = 2 * (4 * nk)) (hb : AllBytes zs) (hrc : RC w) (hpos : 3 < w.heap.size) :
  Calls Tryz.prog 95 #[.pointer (some ⟨sh, 0, none⟩), .func (.func fn) xs ys] w fun e w' => Hid (∃ go ov', e = .returned (.tuple #[bV 151 [.pointer (some ⟨sh, 0, none⟩), .func (.func fn) xs ys, .pointer (some ⟨go, 0, none⟩)], bV 152 [.pointer (some ⟨sh, 0, none⟩), .func (.func fn) xs ys, .pointer (some ⟨go, 0, none⟩)]]) ∧ w.heap.size ≤ go ∧ KeyAt w' go (nk + 6) (schedK nk (nat8 (zs.drop (4 * nk)))) ∧ ShA B w' sh S st (4 * nk) zs kv mp ov' ∧ Fs B sh w w') := by
 have HR : Hid (Calls Tryz.prog 150 #[.pointer (some ⟨sh, 0, none⟩)] w fun e w' => Hid (∃ y d, e = .returned (.slice y (zs.length - 4 * nk) d) ∧ View w' (.slice y (zs.length - 4 * nk) d) (zs.drop (4 * nk)) ∧ Below w.heap.size w w')) := rest_ok B sh S st (4 * nk) zs kv mp ov w h (by omega)
 have hb' : AllBytes (zs.drop (4 * nk)) := fun i => by
  rw [List.getD_eq_getElem?_getD, List.getElem?_drop, ← List.getD_eq_getElem?_getD]; exact hb _
 have HK : Hid (∀ u v, Below w.heap.size w u → View u v (zs.drop (4 * nk)) → Calls Tryz.prog 144 #[.pointer (some ⟨sh, 0, none⟩), v] u fun e w' => Hid (∃ g ov', e = .returned (.pointer (some ⟨g, 0, none⟩)) ∧ u.heap.size ≤ g ∧ KeyAt w' g (nk + 6) (schedK nk (nat8 (zs.drop (4 * nk)))) ∧ (∃ R : Array Value, w'.heap[g]? = some (.cells R 160 (0, 0))) ∧ ShA B w' sh S st (4 * nk) zs kv mp ov' ∧ (∀ n os, u.ownsRow B 105 1 ov n os → ∃ os', w'.ownsRow B 105 1 ov' (n + 1) os') ∧ Fs B sh u w')) := fun u v hu hv => by
  obtain ⟨n0, os0, hn0, ho0⟩ := hfew
  exact schedule_ok B sh S st (4 * nk) zs kv mp ov v (zs.drop (4 * nk)) nk u (h.below hu) (Nat.le_trans hB hu.size) ⟨n0, os0, by omega, ownsRow_below ho0 hu⟩ hnk (by rw [List.length_drop]; omega) hv hb' (fun i hi => (hu.cell (p := ⟨3, i, none⟩) hpos).trans (hrc i hi)) (Nat.lt_of_lt_of_le hpos hu.size)
 have HB0 : Hid (B ≤ w.heap.size) := hB
 clear h hfew hl hb hrc hpos hB hb'
 go_enter Tryz.func95, Tryz.ntmps95
 go_upto_region 2 with (first
  | (go_at_call 150; refine HR.out.mono ?_; intro e1 w1 hh; obtain ⟨y, d, rfl, hv1, hb1⟩ := hh.out; have HV1 : Hid (View w1 (.slice y (zs.length - 4 * nk) d) (zs.drop (4 * nk)) ∧ Below w.heap.size w w1) := ⟨hv1, hb1⟩; clear hh hv1 hb1)
  | (go_at_call 144; refine (HK.out _ _ HV1.out.2 HV1.out.1).mono ?_; intro e2 w2 hh; obtain ⟨go, ov', rfl, hg2, hK2, hR2, hS2, hO2, hF2⟩ := hh.out; have HS2 : Hid (w1.heap.size ≤ go ∧ KeyAt w2 go (nk + 6) (schedK nk (nat8 (zs.drop (4 * nk)))) ∧ ShA B w2 sh S st (4 * nk) zs kv mp ov' ∧ Fs B sh w1 w2) := ⟨hg2, hK2, hS2, hF2⟩; clear hh hg2 hK2 hR2 hS2 hO2 hF2))
 obtain ⟨w3, hw3⟩ : ∃ w3, w3 = w2.alloc (.cells #[.pointer (some ⟨sh, 0, none⟩), .func (.func fn) xs ys, .pointer (some ⟨go, 0, none⟩)] 205) := ⟨_, rfl⟩
 have HW : Hid (Bx w3 w2.heap.size 205 [.pointer (some ⟨sh, 0, none⟩), .func (.func fn) xs ys, .pointer (some ⟨go, 0, none⟩)] ∧ Below w2.heap.size w2 w3) := by rw [hw3]; exact ⟨Bx.new w2 205 _, (Below.refl _ _).alloc (Nat.le_refl _) _⟩
 rw [← hw3]
 clear hw3
 have d0 : w3.cell? ⟨w2.heap.size, 0, none⟩ = some (.pointer (some ⟨sh, 0, none⟩)) := HW.out.1.cell 0 _ rfl
 have d1 : w3.cell? ⟨w2.heap.size, 1, none⟩ = some (.func (.func fn) xs ys) := HW.out.1.cell 1 _ rfl
 have d2 : w3.cell? ⟨w2.heap.size, 2, none⟩ = some (.pointer (some ⟨go, 0, none⟩)) := HW.out.1.cell 2 _ rfl
 go_region
 all_goals go_wp2
 all_goals go_ret2
 all_goals (
  have hb := HW.out.2.drew
  exact ⟨go, ov', rfl, Nat.le_trans HV1.out.2.size HS2.out.1, HS2.out.2.1.sameK (hb.block go HS2.out.2.1.ciph.here) hb.size, HS2.out.2.2.1.below hb, (Fs.of_below HV1.out.2 HB0.out).trans (HS2.out.2.2.2.trans (Fs.of_below hb (Nat.le_trans (Nat.le_trans HB0.out HV1.out.2.size) HS2.out.2.2.2.bel.size)))⟩)
end Go.Proofs.YtcnikfikpnnblaaGreatDoor
namespace Go.Proofs.YtcnikfikpnnblaaGreatDoor.Dg
open Go.RowKit
set_option linter.unusedVariables false
set_option linter.unusedSimpArgs false

/-- The digests that there are. -/
def Known (h : Int) : Prop := h = 224 ∨ h = 256 ∨ h = 384 ∨ h = 512
def wdOf (h : Int) : Bool := decide (h = 384 ∨ h = 512)
def szOf (h : Int) : Nat := (h / 8).toNat
theorem Known.block {h : Int} (k : Known h) : blockOf h = bsz (wdOf h) := by rcases k with rfl | rfl | rfl | rfl <;> rfl
theorem firstWords_any {h : Int} (k : Known h) (w : World) (hT : Tables w) :
  Calls Tryz.prog 263 #[.int .i64 h] w fun e w' => e = .returned (.agg (firstE h).cells.toArray) ∧ Below w.heap.size w w' := by
 rcases k with rfl | rfl | rfl | rfl
 ·exact firstWords224 w hT
 ·exact firstWords256 w hT
 ·exact firstWords384 w hT
 ·exact firstWords512 w hT
/-- begin, of a digest that there is. -/
theorem begin_any {h : Int} (k : Known h) (w : World) (hT : Tables w) :
  Calls Tryz.prog 236 #[.int .i64 h] w fun e w' => e = .returned (.tuple #[.agg (tkL h (wdOf h) (firstE h) (fun _ => 0) 0).toArray, .int .i64 0]) ∧ Below w.heap.size w w' := by
 have hb := k.block
 cases hw : wdOf h
 ·rw [hw] at hb
  exact begin_good64 h w hb (fun v hv => firstWords_any k v hv) hT
 ·rw [hw] at hb
  exact begin_good128 h w hb (fun v hv => firstWords_any k v hv) hT
theorem rep_nil {w : World} {g o : Nat} {h : Int} {wd : Bool} {s : Eight} {half : Nat → Int} {f0 : Nat} (k : TK w g o h wd s half f0) (hf : f0 % bsz wd = 0) : Rep w g o h wd s f0 [] :=
 ⟨half, by simpa [TT_zero] using k, fun i hi => by simp at hi, hf⟩
theorem Rep.below {w v : World} {g o : Nat} {h : Int} {wd : Bool} {s : Eight} {f0 : Nat} {zs : List Int} (k : Rep w g o h wd s f0 zs) (b : Below w.heap.size w v) : Rep v g o h wd s f0 zs := by
 obtain ⟨half, hk, h1, h2⟩ := k
 exact ⟨half, hk.below b, h1, h2⟩
theorem Rep.far {w v : World} {g o g' o' n : Nat} {h : Int} {wd : Bool} {s : Eight} {f0 : Nat} {zs : List Int} (k : Rep w g o h wd s f0 zs) (b : Touch w v g' o' n) (hne : g ≠ g') : Rep v g o h wd s f0 zs := by
 obtain ⟨half, hk, h1, h2⟩ := k
 have hg : g < w.heap.size := lt_of_cell hk.hash
 exact ⟨half, ⟨by rw [b.far hg hne]; exact hk.hash, by rw [b.far (p := ⟨g, o + 1, none⟩) hg hne]; exact hk.fn, fun j x hx => by rw [b.far (p := ⟨g, o + 2 + j, none⟩) hg hne]; exact hk.st j x hx, fun i hi => by rw [b.far (p := ⟨g, o + 10 + i, none⟩) hg hne]; exact hk.half i hi, by rw [b.far (p := ⟨g, o + 138, none⟩) hg hne]; exact hk.fed, b.thereFar hk.there hg hne⟩, h1, h2⟩
theorem fold87 (h : Int) (wd : Bool) (E : Eight) (half : Nat → Int) (fed : Nat) : List.foldl (fun (cs : Array Value) x => cs.setIfInBounds x.snd x.fst) Tryz.zeroCells278 (tkL h wd E half fed).zipIdx = (tkL h wd E half fed).toArray := by kernel_rfl
theorem size87 : (Tryz.prog.info? 278).map (·.size) = some 139 := by kernel_rfl
/-- What a taken's cells are, as a value. -/
structure TkBig (T : List Value) : Prop where
 len : T.length = 139
 one : T.toArray.all (·.oneCell') = true
 built : List.foldl (fun (cs : Array Value) x => cs.setIfInBounds x.snd x.fst) Tryz.zeroCells278 T.zipIdx = T.toArray
theorem TkBig.size {T : List Value} (h : TkBig T) : T.toArray.size = 139 := by simpa using h.len
theorem TkBig.info {T : List Value} (h : TkBig T) : (Tryz.prog.info? 274).map (·.size) = some T.toArray.size := by rw [h.size]; exact size71
theorem TkBig.info87 {T : List Value} (h : TkBig T) : (Tryz.prog.info? 278).map (·.size) = some T.toArray.size := by rw [h.size]; exact size87
theorem tkBig (h : Int) (wd : Bool) (E : Eight) (half : Nat → Int) (fed : Nat) : TkBig (tkL h wd E half fed) := ⟨tkL_length _ _ _ _ _, tkL_one _ _ _ _ _, fold87 _ _ _ _ _⟩

set_option maxHeartbeats 1600000 in
set_option maxRecDepth 100000 in
/-- New, of a digest that there is. -/
theorem new_good (h : Int) (w : World) (k : Hid (Known h)) (hT : Hid (Tables w)) :
  Calls Tryz.prog 201 #[.int .i64 h] w fun e w' => ∃ g, e = .returned (.tuple #[.pointer (some ⟨g, 0, none⟩), .int .i64 0]) ∧ w.heap.size ≤ g ∧ Rep w' g 0 h (wdOf h) (firstE h) 0 [] ∧ Below w.heap.size w w' := by
 go_enter Tryz.func201, Tryz.ntmps201
 go_wp2_with (first | (go_at_call 236; refine (begin_any k.out w hT.out).mono ?_))
 rintro e1 w1 ⟨rfl, hb1⟩
 obtain ⟨T, HTT⟩ : ∃ T : List Value, Hid (T = tkL h (wdOf h) (firstE h) (fun _ => 0) 0) := ⟨_, rfl⟩
 rw [← HTT.out]
 have HG : Hid (TkBig T) := by show TkBig T; rw [HTT.out]; exact tkBig _ _ _ _ _
 have HB1 : Hid (Below w.heap.size w w1) := hb1
 have HX : Hid ((w1.alloc (.cells Tryz.zeroCells274 274)).there w1.heap.size 0 139) := there_new w1 Tryz.zeroCells274 274 139 (by rw [cells71z, size71z]; exact Nat.le_refl _)
 clear hb1
 go_upto_region 4 with (first
  | (refine wpList_store_mid (by rfl) 274 (.tmp 4) (.tmp 9) (by rfl) w1.heap.size 0 T.toArray (by rfl) (by rfl) (by rw [HG.out.size]; exact HX.out) HG.out.info HG.out.one ?_)
  | fail)
 have HR2 : Hid (((w1.alloc (.cells Tryz.zeroCells274 274)).setCells w1.heap.size 0 T).rangeAt w1.heap.size 0 T) := World.rangeAt_setCells_same _ _ _ _ (by rw [HG.out.len]; exact HX.out)
 have HB2 : Hid (Below w.heap.size w ((w1.alloc (.cells Tryz.zeroCells274 274)).setCells w1.heap.size 0 T)) := below_setCells _ HB1.out.size _ _ _ (HB1.out.alloc HB1.out.size _)
 generalize (w1.alloc (.cells Tryz.zeroCells274 274)).setCells w1.heap.size 0 T = w2 at HR2 HB2 ⊢
 clear HX
 have hlen := HG.out.len
 have hfold := HG.out.built
 go_wp2_with (first
  | (refine wpList_load_mid (by rfl) 274 (.tmp 4) (by rfl) w1.heap.size 0 (by rfl) T _ HR2.out Tryz.underlying274 rfl (by rw [HG.out.len]; exact size71) ?_)
  | fail)
 go_ret2
 have hr := rangeAt_new w2 T.toArray 278
 have ht := there_new w2 T.toArray 278 139 (by rw [HG.out.size]; exact Nat.le_refl _)
 have hT' : T = tkL h (wdOf h) (firstE h) (fun _ => 0) 0 := HTT.out
 refine ⟨w2.heap.size, rfl, HB2.out.size, rep_nil (TK.of (half := fun _ => 0) ?_ ht) (Nat.zero_mod _), HB2.out.alloc HB2.out.size _⟩
 rw [hT'] at hr ⊢
 exact hr

set_option maxHeartbeats 400000 in
theorem size_known {h : Int} (k : Known h) (w : World) : Calls Tryz.prog 266 #[.int .i64 h] w fun e w' => e = .returned (.int .i64 (szOf h)) ∧ w' = w := by
 rcases k with rfl | rfl | rfl | rfl
 ·go_enter Tryz.func266, Tryz.ntmps266
  go_wp2_with (first | (go_at_call 260; refine (block_any _ _).mono ?_; rintro e1 w1 ⟨rfl, hw1⟩; obtain rfl := hw1.symm; rw [show blockOf 224 = 64 from rfl]))
  go_ret
  exact ⟨rfl, rfl⟩
 ·go_enter Tryz.func266, Tryz.ntmps266
  go_wp2_with (first | (go_at_call 260; refine (block_any _ _).mono ?_; rintro e1 w1 ⟨rfl, hw1⟩; obtain rfl := hw1.symm; rw [show blockOf 256 = 64 from rfl]))
  go_ret
  exact ⟨rfl, rfl⟩
 ·go_enter Tryz.func266, Tryz.ntmps266
  go_wp2_with (first | (go_at_call 260; refine (block_any _ _).mono ?_; rintro e1 w1 ⟨rfl, hw1⟩; obtain rfl := hw1.symm; rw [show blockOf 384 = 128 from rfl]))
  go_ret
  exact ⟨rfl, rfl⟩
 ·go_enter Tryz.func266, Tryz.ntmps266
  go_wp2_with (first | (go_at_call 260; refine (block_any _ _).mono ?_; rintro e1 w1 ⟨rfl, hw1⟩; obtain rfl := hw1.symm; rw [show blockOf 512 = 128 from rfl]))
  go_ret
  exact ⟨rfl, rfl⟩
set_option maxHeartbeats 400000 in
theorem shash (g : Nat) (h : Int) (w : World) (c : w.cell? ⟨g, 0, none⟩ = some (.int .i64 h)) : Calls Tryz.prog 267 #[.pointer (some ⟨g, 0, none⟩)] w fun e w' => e = .returned (.int .i64 h) ∧ w' = w := by
 go_enter Tryz.func267, Tryz.ntmps267
 go_wp2
 go_ret
 exact ⟨rfl, rfl⟩
set_option maxHeartbeats 400000 in
theorem ssize (g : Nat) (h : Int) (w : World) (k : Hid (Known h)) (c : Hid (w.cell? ⟨g, 0, none⟩ = some (.int .i64 h))) : Calls Tryz.prog 240 #[.pointer (some ⟨g, 0, none⟩)] w fun e w' => e = .returned (.int .i64 (szOf h)) ∧ w' = w := by
 go_enter Tryz.func240, Tryz.ntmps240
 go_wp2_with (first
  | (go_at_call 267; refine (shash g h w c.out).mono ?_; rintro e1 w1 ⟨rfl, hw1⟩; obtain rfl := hw1.symm)
  | (go_at_call 266; refine (size_known k.out _).mono ?_; rintro e1 w1 ⟨rfl, hw1⟩; obtain rfl := hw1.symm))
 go_ret
 exact ⟨rfl, rfl⟩
set_option maxHeartbeats 800000 in
/-- Stream.Write of what fits. -/
theorem swrite (g : Nat) (h : Int) (s0 : Eight) (zs : List Int) (yss : List (List Int)) (v : Value) (w : World) (k : Hid (Known h)) (hr : Hid (Rep w g 0 h (wdOf h) s0 0 zs)) (hp : Hid (Parts w g v yss)) (hT : Hid (Tables w)) (hg : 9 ≤ g) (hs : Hid (zs.length + yss.flatten.length ≤ 33554432)) :
  Calls Tryz.prog 202 #[.pointer (some ⟨g, 0, none⟩), v] w fun e w' => e = .returned (.int .i64 0) ∧ Touch w w' g 0 139 ∧ Rep w' g 0 h (wdOf h) s0 0 (zs ++ yss.flatten) := by
 have HA : Hid (Calls Tryz.prog 237 #[.pointer (some ⟨g, 0, none⟩), .int .u64 33554432, v] w fun e w' => e = .returned (.int .i64 0) ∧ Touch w w' g 0 139 ∧ Rep w' g 0 h (wdOf h) s0 0 (zs ++ yss.flatten)) :=
  write_rep (wdOf h) g 0 h s0 0 zs yss v (33554432 - zs.length) 33554432 w k.out.block hr.out hp.out hT.out hg (by have := hs.out; omega) (by have := hs.out; omega) (by have := hs.out; omega)
 go_enter Tryz.func202, Tryz.ntmps202
 go_wp2_with (first | (go_at_call 237; refine HA.out.mono ?_; rintro e1 w1 ⟨rfl, ht1, hr1⟩))
 have HQ : Hid (Touch w w1 g 0 139 ∧ Rep w1 g 0 h (wdOf h) s0 0 (zs ++ yss.flatten)) := ⟨ht1, hr1⟩
 clear ht1 hr1
 go_wp2
 go_ret
 exact ⟨rfl, HQ.out.1, HQ.out.2⟩
end Go.Proofs.YtcnikfikpnnblaaGreatDoor.Dg
