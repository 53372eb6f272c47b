import Derived.Test.YtcnikfikpnnblaaGreatDoorDgSSum
import Derived.Test.YtcnikfikpnnblaaGreatDoorPart02
import Derived.Test.YtcnikfikpnnblaaGreatDoorPart11
import Derived.Test.YtcnikfikpnnblaaGreatDoorNwc
namespace Go.Proofs.YtcnikfikpnnblaaGreatDoor.Dg
open Go.RowKit
set_option linter.unusedVariables false
set_option linter.unusedSimpArgs false

theorem view_lt {w : World} {v : Value} {zs : List Int} (hv : View w v zs) (h0 : zs ≠ []) : ∀ b off l c, v = .slice (some ⟨b, off, none⟩) l c → b < w.heap.size := fun b off l c e => by
 obtain ⟨a, cap, e1, h1, h2, h3, h4⟩ := hv
 rcases h4 with h4 | ⟨b', p', e2, hc⟩
 ·exact absurd h4 h0
 ·rw [e] at e1
  injection e1 with e3 _ _
  rw [e2] at e3
  injection e3 with e3
  injection e3 with e4 _
  have := lt_of_cell (hc 0 (by cases zs with | nil => exact absurd rfl h0 | cons _ _ => simp))
  simp at this
  omega
theorem view_sliced {w : World} {a : Option Addr} {n cap : Nat} {zs : List Int} (hv : View w (.slice a n cap) zs) (i j : Nat) (hij : i ≤ j) (hj : j ≤ n) : View w (sliced a i j cap 1) ((zs.drop i).take (j - i)) := by
 obtain ⟨a', c, he, h1, h2, h3, h4⟩ := hv
 injection he with e1 e2 e3
 subst e1 e2 e3
 have hl : ((zs.drop i).take (j - i)).length = j - i := by simp; omega
 refine ⟨if cap = i then a else a.map (·.add (i * 1)), cap - i, by rw [sliced, hl], by omega, by omega, ?_, ?_⟩
 ·intro e
  split at e
  ·omega
  ·have : a = none := by cases a with | none => rfl | some x => cases e
   have := h3 this
   omega
 ·by_cases hz : (zs.drop i).take (j - i) = []
  ·exact .inl hz
  ·right
   have hlt : i < j := by
    by_cases hlt : i < j
    ·exact hlt
    ·exact absurd (by rw [show j - i = 0 by omega, List.take_zero]) hz
   rcases h4 with rfl | ⟨b, off, rfl, hc⟩
   ·simp at hj; omega
   ·refine ⟨b, off + i, ?_, fun k hk => ?_⟩
    ·rw [if_neg (by omega), Option.map_some, Nat.mul_one, Addr.add_mid]
    ·rw [hl] at hk
     rw [Nat.add_assoc, hc (i + k) (by omega)]
     simp [List.getD, List.getElem?_take, hk]
theorem elem22 : Tryz.prog.elem 24 = 5 := by kernel_rfl
theorem und22 : Tryz.prog.underlying 24 = some (.slice (Tryz.prog.elem 24)) := by kernel_rfl
theorem sizeOf5 (w : World) : (Go.sizeOf 5).run Tryz.prog w = .ok 1 w := by kernel_rfl
theorem slice_lh (w : World) (a : Option Addr) (n cap i j : Nat) (hij : i ≤ j) (hj : j ≤ cap) : (Instr.slice 24 (.slice a n cap) (some (.int .i64 i)) (some (.int .i64 j)) none).run Tryz.prog w = .ok (sliced a i j cap 1) w := by
 rw [run_slice_lh w 24 a n cap und22 .i64 .i64 i j (by omega) (by omega) (by omega), elem22, sizeOf5]
 simp [Result.andThen]
theorem slice_h (w : World) (a : Option Addr) (n cap j : Nat) (hj : j ≤ cap) : (Instr.slice 24 (.slice a n cap) none (some (.int .i64 j)) none).run Tryz.prog w = .ok (sliced a 0 j cap 1) w := by
 rw [run_slice_h w 24 a n cap und22 .i64 j (by omega) (by omega), elem22, sizeOf5]
 simp [Result.andThen]
theorem slice_l (w : World) (a : Option Addr) (n cap i : Nat) (hi : i ≤ n) (hn : n ≤ cap) : (Instr.slice 24 (.slice a n cap) (some (.int .i64 i)) none none).run Tryz.prog w = .ok (sliced a i n cap 1) w := by
 rw [run_slice_l w 24 a n cap und22 .i64 i (by omega) (by omega), elem22, sizeOf5]
 simp [Result.andThen]

/-- Slices of slices that are built. -/
theorem parts1_alloc {u : World} (t : TypeId) (x : Value) (ys : List Int) (g : Nat) (hx : View u x ys) (hg : u.heap.size ≠ g) (hox : ys ≠ [] → ∀ b off l c, x = .slice (some ⟨b, off, none⟩) l c → b ≠ g) : Parts (u.alloc (.cells #[x] t)) g (.slice (some ⟨u.heap.size, 0, none⟩) 1 1) [ys] := by
 refine ⟨_, 1, rfl, by simp, by simp [maxLen], .inr ⟨u.heap.size, 0, rfl, hg, fun i hi => ?_⟩⟩
 obtain rfl : i = 0 := by simpa using hi
 exact ⟨x, World.cell?_alloc_at _ _ _ _ rfl, hx.kept (fun q hq => Below.heap_alloc u _ q hq), hox⟩
theorem parts2_alloc {u : World} (t : TypeId) (x y : Value) (ys zs : List Int) (g : Nat) (hx : View u x ys) (hy : View u y zs) (hg : u.heap.size ≠ g) (hox : ys ≠ [] → ∀ b off l c, x = .slice (some ⟨b, off, none⟩) l c → b ≠ g) (hoy : zs ≠ [] → ∀ b off l c, y = .slice (some ⟨b, off, none⟩) l c → b ≠ g) : Parts (u.alloc (.cells #[x, y] t)) g (.slice (some ⟨u.heap.size, 0, none⟩) 2 2) [ys, zs] := by
 refine ⟨_, 2, rfl, by simp, by simp [maxLen], .inr ⟨u.heap.size, 0, rfl, hg, fun i hi => ?_⟩⟩
 have hi' : i < 2 := by simpa using hi
 match i, hi' with
 | 0, _ => exact ⟨x, World.cell?_alloc_at _ _ _ _ rfl, hx.kept (fun q hq => Below.heap_alloc u _ q hq), hox⟩
 | 1, _ => exact ⟨y, World.cell?_alloc_at _ _ _ _ rfl, hy.kept (fun q hq => Below.heap_alloc u _ q hq), hoy⟩
theorem view_nil (w : World) : View w (.slice none 0 0) [] := ⟨none, 0, rfl, by simp, by simp [maxLen], fun _ => rfl, .inl rfl⟩
/-- A Marked copy's own row, without its marks. -/
theorem marked_owns {B : Nat} {w : World} {v : Value} {zs : List Int} (h : Marked B w v zs) : ∃ g c, v = .slice (some ⟨g, 0, none⟩) zs.length c ∧ B ≤ g ∧ g < w.heap.size ∧ w.ownsRow B 5 1 v zs.length (cellsU8 zs) := by
 obtain ⟨g, c, rfl, hl, ho⟩ := h
 rcases ho with ⟨h, _⟩ | ⟨g', c', cur, he, h1, h2, h3, h4, h5, h6⟩
 ·cases h
 ·injection he with e1 e2 e3
  injection e1 with e1
  injection e1 with e4 _
  subst e4 e3
  refine ⟨g, c, rfl, h1, (Array.getElem?_eq_some_iff.1 h2).1, by rw [cellsU8_length]; omega, .inr ⟨g, c, cur, rfl, h1, h2, by omega, h4, h5, ?_⟩⟩
  have e1 : cur.toList.take (zs.length * 1) = (cur.toList.take ((zs.length + 70) * 1)).take zs.length := by
   rw [List.take_take]
   congr 1
   omega
  rw [e1, h6, cellsU8_append, List.take_append_of_le_length (by rw [cellsU8_length]; exact Nat.le_refl _), List.take_of_length_le (by rw [cellsU8_length]; exact Nat.le_refl _)]

end Go.Proofs.YtcnikfikpnnblaaGreatDoor.Dg
namespace Go.Proofs.YtcnikfikpnnblaaGreatDoor.Dg
open Go.RowKit
set_option linter.unusedVariables false
theorem elem22p : Tryz.prog.elem 24 = 5 := by kernel_rfl
theorem und22p : Tryz.prog.underlying 24 = some (.slice (Tryz.prog.elem 24)) := by kernel_rfl
theorem sizeOf5p (w : World) : (Go.sizeOf 5).run Tryz.prog w = .ok 1 w := by kernel_rfl
/-- A digest, as bytes. -/
def sumD (h : Int) (zs : List Int) : List Int := (spellL (wdOf h) (endW (wdOf h) (firstE h) 0 zs)).take (szOf h)
theorem szOf_pos {h : Int} (k : Known h) : 1 ≤ szOf h ∧ szOf h ≤ 64 := by rcases k with rfl | rfl | rfl | rfl <;> decide
theorem viewOwns {w : World} {B n : Nat} {v : Value} {zs : List Int} (h : w.ownsRow B 5 1 v n (cellsU8 zs)) (hn : zs.length = n) : View w v zs := by
 have h0 := h
 rcases h.2 with ⟨rfl, e0⟩ | ⟨g, c, cur, rfl, q1, q2, q3, q4, q5, q6⟩
 ·refine ⟨none, 0, by rw [hn, e0], by omega, by simp [maxLen], fun _ => rfl, Or.inl (List.eq_nil_of_length_eq_zero (by omega))⟩
 ·refine ⟨some ⟨g, 0, none⟩, c, by rw [hn], by omega, q4, (fun e => by cases e), Or.inr ⟨g, 0, rfl, fun i hi => ?_⟩⟩
  have hc := h0.cells (g := g) rfl i (.int .u8 (zs.getD i 0)) (by simp [cellsU8, List.getD, List.getElem?_eq_getElem hi])
  rw [Addr.add_lit] at hc
  exact hc
theorem sumD_length (h : Int) (k : Known h) (X : List Int) : (sumD h X).length = szOf h := by
 have := szOf_pos k
 simp [sumD, spellL]
 omega
theorem owns_kept {w w' : World} {B n e s : Nat} {v : Value} {xs : List Value} (h : w.ownsRow B e s v n xs) (hb : Below w.heap.size w w') : w'.ownsRow B e s v n xs := by
 obtain ⟨h1, h2⟩ := h
 refine ⟨h1, ?_⟩
 rcases h2 with h2 | ⟨g, c, cur, e, q1, q2, q⟩
 ·exact .inl h2
 ·exact .inr ⟨g, c, cur, e, q1, by rw [hb.block g (Array.getElem?_eq_some_iff.1 q2).1]; exact q2, q⟩
/-- A list of lists of bytes: its cells, and what they hold. -/
def PV (w : World) (v : Value) (xs : List Value) (yss : List (List Int)) : Prop :=
 ∃ a c, v = .slice a xs.length c ∧ xs.length ≤ c ∧ c ≤ maxLen ∧ xs.length = yss.length ∧ (∀ i x, xs[i]? = some x → View w x (yss.getD i [])) ∧ (xs = [] ∨ ∃ b p, a = some ⟨b, p, none⟩ ∧ ∀ i x, xs[i]? = some x → w.cell? ⟨b, p + i, none⟩ = some x)
theorem PV.kept {w w' : World} {v : Value} {xs : List Value} {yss : List (List Int)} (h : PV w v xs yss) (hb : ∀ b, b < w.heap.size → w'.heap[b]? = w.heap[b]?) : PV w' v xs yss := by
 obtain ⟨a, c, e, h1, h2, h3, h4, h5⟩ := h
 refine ⟨a, c, e, h1, h2, h3, fun i x hx => (h4 i x hx).kept hb, ?_⟩
 rcases h5 with h5 | ⟨b, p, e5, h6⟩
 ·exact .inl h5
 ·refine .inr ⟨b, p, e5, fun i x hx => ?_⟩
  have q := h6 i x hx
  rw [World.cell?_of_block (w := w) (hb b (lt_of_cell q))]
  exact q
theorem PV.parts {w : World} {v : Value} {xs : List Value} {yss : List (List Int)} (h : PV w v xs yss) (g : Nat) (hg : w.heap.size ≤ g) : Parts w g v yss := by
 obtain ⟨a, c, e, h1, h2, h3, h4, h5⟩ := h
 refine ⟨a, c, by rw [← h3]; exact e, by omega, h2, ?_⟩
 rcases h5 with h5 | ⟨b, p, e5, h6⟩
 ·left
  rw [h5] at h3
  exact List.eq_nil_of_length_eq_zero h3.symm
 ·by_cases h0 : yss = []
  ·exact .inl h0
  ·right
   have hl : 0 < xs.length := by rw [h3]; exact List.length_pos_iff.2 h0
   have hb := lt_of_cell (h6 0 _ (List.getElem?_eq_getElem hl))
   refine ⟨b, p, e5, (by simp at hb; omega), fun i hi => ?_⟩
   have hi' : i < xs.length := by omega
   have hx := List.getElem?_eq_getElem hi'
   refine ⟨_, h6 i _ hx, h4 i _ hx, fun hne b' off l c' ex => ?_⟩
   have := view_lt (h4 i _ hx) hne b' off l c' ex
   omega
end Go.Proofs.YtcnikfikpnnblaaGreatDoor.Dg
namespace Go.Proofs.YtcnikfikpnnblaaGreatDoor
open Go.RowKit
set_option linter.unusedVariables false
set_option linter.unusedSimpArgs false
theorem sumD_bytes (h : Int) (zs : List Int) : AllBytes (Dg.sumD h zs) := fun i => by
 unfold Dg.sumD
 rw [List.getD_eq_getElem?_getD, List.getElem?_take]
 split
 ·unfold Dg.spellL
  rw [List.getElem?_map]
  cases (List.range 64)[i]? with
  | none => simp
  | some q => simp only [Option.map_some, Option.getD_some]; unfold Dg.spellAt; omega
 ·simp
theorem sum256_len (zs : List Int) : (Dg.sumD 256 zs).length = 4 * 8 := Dg.sumD_length 256 (.inr (.inl rfl)) zs
set_option maxHeartbeats 1600000 in
set_option maxRecDepth 100000 in
/-- beginESSIV. -/
theorem beginESSIV_ok (B sh : Nat) (S : ByteArray) (st wd : Nat) (zs : List Int) (kv : Value) (mp : Option Addr) (w : World) (h : ShA B w sh S st wd zs kv mp (.slice none 0 0)) (hB : B ≤ w.heap.size) (hn : zs.length ≤ 1000) (hT : Dg.Tables w) (hrc : RC w) :
  Calls Tryz.prog 93 #[.pointer (some ⟨sh, 0, none⟩)] w fun e w' => Hid (∃ go bx ov', e = .returned (.func (.func 145) #[] #[.pointer (some ⟨bx, 0, none⟩)]) ∧ w.heap.size ≤ go ∧ w.heap.size ≤ bx ∧ KeyAt w' go (8 + 6) (schedK 8 (nat8 (Dg.sumD 256 zs))) ∧ (∃ R : Array Value, w'.heap[go]? = some (.cells R 160 (0, 0))) ∧ Bx w' bx 105 [.pointer (some ⟨go, 0, none⟩)] ∧ ShA B w' sh S st wd zs kv mp ov' ∧ (∃ n os, n ≤ 1 ∧ w'.ownsRow B 105 1 ov' n os) ∧ Fs B sh w w') := by
 have hpos : 3 < w.heap.size := by have := hT.size; omega
 have hv0 := h.view
 obtain ⟨xa, xc, hkv, _⟩ := h.view
 have c2 : w.cell? ⟨sh, 2, none⟩ = some kv := h.box.cell 2 _ rfl
 have HSM : Hid (Calls Tryz.prog 143 #[.int .i64 256, .slice (some ⟨w.heap.size, 0, none⟩) 1 1] (w.alloc (.cells #[kv] 24)) fun e w' => Hid (∃ b, e = .returned (.tuple #[.slice (some ⟨b, 0, none⟩) 32 32, .int .i64 0]) ∧ View w' (.slice (some ⟨b, 0, none⟩) 32 32) (Dg.sumD 256 zs) ∧ Below w.heap.size w w')) := by
  have hal : Below w.heap.size w (w.alloc (.cells #[kv] 24)) := (Below.refl _ _).alloc (Nat.le_refl _) _
  refine (Dg.dsum 256 [zs] _ _ (.inr (.inl rfl)) (fun u g hu hg => ?_) (hT.below hal (by have := hT.size; omega)) ?_).mono ?_
  ·have q : Dg.Parts (w.alloc (.cells #[kv] 24)) g (.slice (some ⟨w.heap.size, 0, none⟩) 1 1) [zs] := Dg.parts1_alloc 24 kv zs g hv0 (by simp at hg; omega) (fun h0 b off l c e => by
    have := view_lt hv0 h0 b off l c e
    simp at hg; omega)
   obtain ⟨a, c, e1, e2, e3, e4⟩ := q
   refine ⟨a, c, e1, e2, e3, ?_⟩
   rcases e4 with e4 | ⟨b, p, e5, e6, e7⟩
   ·exact .inl e4
   ·refine .inr ⟨b, p, e5, e6, fun i hi => ?_⟩
    obtain ⟨x, x1, x2, x3⟩ := e7 i hi
    exact ⟨x, by rw [hu.cell (World.block_lt_of_cell? _ _ x1)]; exact x1, Dg.View.kept x2 hu.block, x3⟩
  ·show ([zs] : List (List Int)).flatten.length ≤ 33554432
   simp; omega
  ·rintro e w' ⟨b, he, ho, hb⟩
   refine ⟨b, he, ?_, hal.trans (hb.mono hal.size)⟩
   rw [show ([zs] : List (List Int)).flatten = zs by simp] at ho
   exact view_owns (n := 32) ho (sum256_len zs)
 subst hkv
 have HK : Hid (∀ u v, Below w.heap.size w u → View u v (Dg.sumD 256 zs) → Calls Tryz.prog 144 #[.pointer (some ⟨sh, 0, none⟩), v] u fun e w' => Hid (∃ g ov', e = .returned (.pointer (some ⟨g, 0, none⟩)) ∧ u.heap.size ≤ g ∧ KeyAt w' g (8 + 6) (schedK 8 (nat8 (Dg.sumD 256 zs))) ∧ (∃ R : Array Value, w'.heap[g]? = some (.cells R 160 (0, 0))) ∧ ShA B w' sh S st wd zs (.slice xa zs.length xc) mp ov' ∧ (∀ n os, u.ownsRow B 105 1 (.slice none 0 0) n os → ∃ os', w'.ownsRow B 105 1 ov' (n + 1) os') ∧ Fs B sh u w')) := fun u v hu hv =>
  schedule_ok B sh S st wd zs _ mp _ v (Dg.sumD 256 zs) 8 u (h.below hu) (Nat.le_trans hB hu.size) ⟨0, [], by omega, World.ownsRow_nil _ _ _ _⟩ (.inr (.inr rfl)) (sum256_len zs) hv (sumD_bytes _ _) (fun i hi => (hu.cell (p := ⟨3, i, none⟩) hpos).trans (hrc i hi)) (Nat.lt_of_lt_of_le hpos hu.size)
 have HB0 : Hid (B ≤ w.heap.size) := hB
 have hlt : sh < w.heap.size := h.box.lt
 obtain ⟨n, HNL⟩ : ∃ n, Hid (zs.length = n) := ⟨_, rfl⟩
 rw [HNL.out] at c2 HSM HK
 clear h hB hT hrc hv0 hpos
 go_enter Tryz.func93, Tryz.ntmps93
 go_upto_region 3 with (first
  | (go_at_call 143; refine HSM.out.mono ?_; intro e1 w1 hh; obtain ⟨b1, rfl, hv1, hb1⟩ := hh.out; have HV1 : Hid (View w1 (.slice (some ⟨b1, 0, none⟩) 32 32) (Dg.sumD 256 zs) ∧ Below w.heap.size w w1) := ⟨hv1, hb1⟩; clear hh hv1 hb1)
  | (go_at_call 144; refine (HK.out _ _ HV1.out.2 HV1.out.1).mono ?_; intro e2 w2 hh; obtain ⟨go, ov', rfl, hg2, hK2, hR2, hS2, hO2, hF2⟩ := hh.out; have HS2 : Hid (w1.heap.size ≤ go ∧ KeyAt w2 go (8 + 6) (schedK 8 (nat8 (Dg.sumD 256 zs))) ∧ (∃ R : Array Value, w2.heap[go]? = some (.cells R 160 (0, 0))) ∧ ShA B w2 sh S st wd zs (.slice xa n xc) mp ov' ∧ (∃ os', w2.ownsRow B 105 1 ov' 1 os') ∧ Fs B sh w1 w2) := ⟨hg2, hK2, hR2, hS2, hO2 0 [] (World.ownsRow_nil _ _ _ _), hF2⟩; clear hh hg2 hK2 hR2 hS2 hO2 hF2))
 go_wp2
 go_ret
 have hal : Below w2.heap.size w2 (w2.alloc (.cells #[.pointer (some ⟨go, 0, none⟩)] 105)) := (Below.refl _ _).alloc (Nat.le_refl _) _
 obtain ⟨hg, hK, ⟨R, hR⟩, hS, ⟨os', ho'⟩, hF⟩ := HS2.out
 have hs2 : w.heap.size ≤ w2.heap.size := Nat.le_trans HV1.out.2.size hF.bel.size
 rw [HNL.out]
 exact ⟨go, w2.heap.size, ov', rfl, Nat.le_trans HV1.out.2.size hg, hs2, hK.sameK (hal.block go hK.ciph.here) hal.size, ⟨R, by rw [hal.block go hK.ciph.here]; exact hR⟩, Bx.new w2 105 _, hS.below hal, ⟨1, os', by omega, ownsRow_below ho' hal⟩, (Fs.of_below HV1.out.2 HB0.out).trans (hF.trans (Fs.of_below hal (Nat.le_trans HB0.out hs2)))⟩
end Go.Proofs.YtcnikfikpnnblaaGreatDoor
