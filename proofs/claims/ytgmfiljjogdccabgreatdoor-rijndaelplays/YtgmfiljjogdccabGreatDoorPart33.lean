import Derived.Test.YtgmfiljjogdccabGreatDoorPart29
import Derived.Test.YtgmfiljjogdccabGreatDoorPart28
import Derived.Test.YtgmfiljjogdccabGreatDoorPart14
import Derived.Deep.QuietTactic
import Derived.BigQuiet
import Derived.Test.YtgmfiljjogdccabGreatDoorRk4
import Derived.Test.YtgmfiljjogdccabGreatDoorRk6
import Derived.Test.YtgmfiljjogdccabGreatDoorRk8
import Derived.Test.YtgmfiljjogdccabGreatDoorPart12
import Derived.Test.YtgmfiljjogdccabGreatDoorPart00
import Derived.Test.YtgmfiljjogdccabGreatDoorPart27
namespace Go.Proofs.YtgmfiljjogdccabGreatDoor
open Go.RowKit
set_option linter.unusedVariables false
/-- m bytes, as cells. -/
def abL (m : Nat) (f : Nat → Nat) : List Value := (List.range m).map fun j => .int .u8 (f j : Nat)
theorem abL_at (m : Nat) (f : Nat → Nat) (j : Nat) (h : j < m) : (abL m f)[j]? = some (.int .u8 (f j : Nat)) := by simp [abL, h]
theorem abL_len (m : Nat) (f : Nat → Nat) : (abL m f).length = m := by simp [abL]
theorem abL_one (m : Nat) (f : Nat → Nat) : ∀ u ∈ abL m f, u.oneCell' = true := fun u hu => by
 simp only [abL, List.mem_map] at hu
 obtain ⟨j, _, rfl⟩ := hu
 rfl
theorem abL_congr {m : Nat} {f g : Nat → Nat} (h : ∀ j, j < m → f j = g j) : abL m f = abL m g := by
 unfold abL
 refine List.map_congr_left (fun j hj => ?_)
 rw [h j (by simpa using hj)]
theorem abL_16 (f : Nat → Nat) : abL 16 f = arL f := (arL_map f).symm
/-- m bytes where they lie. -/
structure Ab (u : World) (b m : Nat) (f : Nat → Nat) : Prop where
 c : ∀ j, j < m → u.cell? ⟨b, j, none⟩ = some (.int .u8 (f j : Nat))
 t : u.there b 0 m
theorem Ab.set {u : World} {b m : Nat} {f : Nat → Nat} (h : Ab u b m f) (k x : Nat) (hk : k < m) : Ab (u.setCell ⟨b, k, none⟩ (.int .u8 (x : Nat))) b m (fun j => if j = k then x else f j) :=
 ⟨fun j hj => by
  by_cases e : j = k
  ·subst e; simp only [if_true]; exact set_same _ h.t hk
  ·simp only [if_neg e]; rw [cell_other _ _ _ _ _ (fun q => e q.symm)]; exact h.c j hj, World.there_setCells h.t _ _ [_]⟩
theorem Ab.far {u : World} {b b' o m : Nat} {f : Nat → Nat} {v : Value} (h : Ab u b m f) (hne : b' ≠ b) : Ab (u.setCell ⟨b', o, none⟩ v) b m f :=
 ⟨fun j hj => by rw [World.cell?_setCell_far _ _ _ _ hne]; exact h.c j hj, World.there_setCells h.t _ _ [_]⟩
theorem Ab.congr {u : World} {b m : Nat} {f f' : Nat → Nat} (h : Ab u b m f) (e : ∀ j, j < m → f j = f' j) : Ab u b m f' := ⟨fun j hj => by rw [← e j hj]; exact h.c j hj, h.t⟩
theorem Ab.range {u : World} {b m : Nat} {f : Nat → Nat} (h : Ab u b m f) : u.rangeAt b 0 (abL m f) := fun j v hv => by
 have hj : j < m := by have := (List.getElem?_eq_some_iff.1 hv).1; rwa [abL_len] at this
 rw [abL_at m f j hj] at hv
 rw [Nat.zero_add, h.c j hj]; exact hv
theorem Ab.same {u u' : World} {b m : Nat} {f : Nat → Nat} (h : Ab u b m f) (e : u'.heap[b]? = u.heap[b]?) : Ab u' b m f :=
 ⟨fun j hj => (World.cell?_of_block (a := ⟨b, j, none⟩) e).trans (h.c j hj), fun j hj => by
  rw [World.cell?_of_block (a := ⟨b, 0 + j, none⟩) e, World.frozen?_of_block (a := ⟨b, 0 + j, none⟩) e]; exact h.t j hj⟩
theorem ab_store {u : World} {b m : Nat} (f : Nat → Nat) (h : u.there b 0 m) : Ab (u.setCells b 0 (abL m f)) b m f :=
 ⟨fun j hj => by
  have := World.rangeAt_setCells_same u b 0 (abL m f) (by rw [abL_len]; exact h) j _ (abL_at m f j hj)
  rw [Nat.zero_add] at this
  exact this, World.there_setCells h _ _ _⟩
theorem Ab.stores {u : World} {b b' m : Nat} {f : Nat → Nat} (h : Ab u b m f) (L : List Value) (hne : b' ≠ b) : Ab (u.setCells b' 0 L) b m f := h.same (heap_other u L hne)
theorem ab_new (w : World) (m : Nat) (f : Nat → Nat) (t : TypeId) : Ab (w.alloc (.cells (abL m f).toArray t)) w.heap.size m f :=
 ⟨fun j hj => by
  rw [World.cell?_alloc_at _ t _ _ rfl]
  have := abL_at m f j hj
  simpa using this, there_new w (abL m f).toArray t m (by simp [abL_len])⟩
theorem Ab.lt {u : World} {b m : Nat} {f : Nat → Nat} (h : Ab u b m f) (hm : 0 < m) : b < u.heap.size := World.block_lt_of_cell? u _ (h.c 0 hm)
theorem Ab.ar {u : World} {b : Nat} {f : Nat → Nat} (h : Ab u b 16 f) : Ar u b f := ⟨h.c, h.t⟩
theorem size114 : (Tryz.prog.info? 114).map (·.size) = some 8 := by kernel_rfl
/-- Eight cells that may be stored. -/
structure A8 (L : List Value) : Prop where
 len : L.length = 8
 sz : (Tryz.prog.info? 114).map (·.size) = some L.length
 sza : (Tryz.prog.info? 114).map (·.size) = some L.toArray.size
 one : L.toArray.all (·.oneCell') = true
theorem a8 (f : Nat → Nat) : A8 (abL 8 f) := ⟨abL_len 8 f, by rw [abL_len]; exact size114, by rw [List.size_toArray, abL_len]; exact size114, all_oneCell_toArray (abL_one 8 f)⟩
theorem A8.there {L : List Value} (h : A8 L) {u : World} {b : Nat} (ht : u.there b 0 8) : u.there b 0 L.toArray.size := by rw [List.size_toArray, h.len]; exact ht
theorem z8_ab : (#[.int .u8 0, .int .u8 0, .int .u8 0, .int .u8 0, .int .u8 0, .int .u8 0, .int .u8 0, .int .u8 0] : Array Value) = (abL 8 zero8).toArray := rfl
theorem z16_ab : (#[.int .u8 0, .int .u8 0, .int .u8 0, .int .u8 0, .int .u8 0, .int .u8 0, .int .u8 0, .int .u8 0, .int .u8 0, .int .u8 0, .int .u8 0, .int .u8 0, .int .u8 0, .int .u8 0, .int .u8 0, .int .u8 0] : Array Value) = (abL 16 zero8).toArray := rfl
theorem byteK_top (m k : Nat) : byteK m k = m / 256 ^ (7 - k) % 256 := rfl
set_option maxHeartbeats 1600000 in
set_option maxRecDepth 100000 in
theorem rnumber_ok (m : Nat) (w : World) (hm : m < 18446744073709551616) :
  Calls Tryz.prog 59 #[.int .u64 (m : Nat)] w fun e w' => e = .returned (.agg (abL 8 (byteK m)).toArray) ∧ Below w.heap.size w w' := by
 have HI : Hid (Below w.heap.size w ((w.alloc (.cells (abL 8 zero8).toArray 114)).alloc (.cells (abL 8 zero8).toArray 114)) ∧ Ab ((w.alloc (.cells (abL 8 zero8).toArray 114)).alloc (.cells (abL 8 zero8).toArray 114)) (w.heap.size + 1) 8 zero8 ∧ Ab ((w.alloc (.cells (abL 8 zero8).toArray 114)).alloc (.cells (abL 8 zero8).toArray 114)) w.heap.size 8 zero8) := by
  have s1 : (w.alloc (.cells (abL 8 zero8).toArray 114)).heap.size = w.heap.size + 1 := by simp
  refine ⟨((Below.refl _ w).alloc (Nat.le_refl _) _).alloc (by omega) _, ?_, ?_⟩
  ·have := ab_new (w.alloc (.cells (abL 8 zero8).toArray 114)) 8 zero8 114
   rw [s1] at this
   exact this
  ·refine (ab_new w 8 zero8 114).same ?_
   have hb : Below (w.alloc (.cells (abL 8 zero8).toArray 114)).heap.size (w.alloc (.cells (abL 8 zero8).toArray 114)) ((w.alloc (.cells (abL 8 zero8).toArray 114)).alloc (.cells (abL 8 zero8).toArray 114)) := (Below.refl _ _).alloc (Nat.le_refl _) _
   exact hb.block _ (by omega)
 rw [← z8_ab] at HI
 obtain ⟨RL, HRL⟩ : ∃ L, Hid (L = abL 8 (byteK m)) := ⟨_, rfl⟩
 rw [← HRL.out]
 have HA8 : Hid (A8 RL) := by show A8 _; rw [HRL.out]; exact a8 _
 go_enter Tryz.func59, Tryz.ntmps59
 go_wp2
 generalize ((w.alloc (.cells #[.int .u8 0, .int .u8 0, .int .u8 0, .int .u8 0, .int .u8 0, .int .u8 0, .int .u8 0, .int .u8 0] 114)).alloc (.cells #[.int .u8 0, .int .u8 0, .int .u8 0, .int .u8 0, .int .u8 0, .int .u8 0, .int .u8 0, .int .u8 0] 114)) = w2 at HI ⊢
 obtain ⟨B1, HB1⟩ : ∃ b, Hid (w.heap.size + 1 = b) := ⟨_, rfl⟩
 rw [HB1.out] at HI ⊢
 have hB1 : B1 ≠ w.heap.size ∧ w.heap.size ≤ B1 := by have := HB1.out; omega
 go_loopw [0, 4] (fun vn i wr => ∃ j : Nat, j ≤ 8 ∧ i = .int .i64 ((j : Int) - 1) ∧ vn = .int .u64 (m / 256 ^ (8 - j) : Nat) ∧ Hid (Below w.heap.size w wr ∧ Ab wr B1 8 (fun q => if j ≤ q then byteK m q else 0) ∧ wr.there w.heap.size 0 8)) (fun _ i _ => (intOf i + 1).toNat)
 case atStart => exact ⟨8, Nat.le_refl _, rfl, by simp, HI.out.1, HI.out.2.1.congr (fun j hj => by rw [if_neg (by omega)]; rfl), HI.out.2.2.t⟩
 case round =>
  obtain ⟨j, hj, rfl, rfl, HJ⟩ := hrel
  cases j with
  | zero =>
   have HA : Hid (Ab wr B1 8 (byteK m)) := HJ.out.2.1.congr (fun j hj => by rw [if_pos (by omega)])
   have HRg : Hid (wr.rangeAt B1 0 RL) := by show World.rangeAt _ _ _ _; rw [HRL.out]; exact HA.out.range
   have HTh : Hid (wr.there w.heap.size 0 RL.toArray.size) := HA8.out.there HJ.out.2.2
   go_wp2_with (first
    | (refine wpList_load_mid (by rfl) 114 (.tmp 3) (by rfl) B1 0 (by rfl) RL _ HRg.out Tryz.underlying114 rfl HA8.out.sz ?_)
    | (refine wpList_store_mid (by rfl) 114 (.tmp 2) (.tmp 16) (by rfl) w.heap.size 0 RL.toArray (by rfl) (by rfl) HTh.out HA8.out.sza HA8.out.one ?_))
   refine ret_array RL Tryz.results59 rfl ?_ Tryz.underlying114 rfl HA8.out.sz ⟨rfl, ?_⟩
   ·exact World.rangeAt_setCells_same _ _ _ _ (by rw [HA8.out.len]; exact HJ.out.2.2)
   ·exact belowB_setCells _ (Nat.le_refl _) _ _ _ HJ.out.1
  | succ q =>
   have hq1 : (((q + 1 : Nat) : Int) - 1) = (q : Nat) := by omega
   rw [hq1]
   obtain ⟨x, HX⟩ : ∃ x, Hid (x = m / 256 ^ (8 - (q + 1))) := ⟨_, rfl⟩
   rw [← HX.out]
   have hq8 : ((q : Nat) : Int) < 8 := by omega
   have hxm : x < 18446744073709551616 := by rw [HX.out]; exact Nat.lt_of_le_of_lt (Nat.div_le_self _ _) hm
   have hc : Hid (Ab wr B1 8 (fun p => if q + 1 ≤ p then byteK m p else 0)) := HJ.out.2.1
   have c1 : wr.cell? ⟨B1, q, none⟩ = some (.int .u8 0) := by rw [HJ.out.2.1.c q (by omega), if_neg (by omega)]; rfl
   have z1 : wr.frozen? ⟨B1, q, none⟩ = false := by have := (HJ.out.2.1.t q (by omega)).2; simpa using this
   go_wp2
   refine ⟨⟨q, by omega, rfl, val_eq ?_, ?_⟩, ?_⟩
   ·have e : m / 256 ^ (8 - q) = x / 256 := by
     rw [HX.out, Nat.div_div_eq_div_mul, ← Nat.pow_succ]
     rw [show (8 - (q + 1)).succ = 8 - q by omega]
    rw [e]
    omega
   ·have hv : ((x : Int) % 256) = ((byteK m q : Nat) : Int) := by
     unfold byteK
     rw [HX.out, show 8 - (q + 1) = 7 - q by omega]
     omega
    rw [hv]
    refine ⟨HJ.out.1.setCell hB1.2 _, (HJ.out.2.1.set q (byteK m q) (by omega)).congr (fun j hj => ?_), World.there_setCells HJ.out.2.2 _ _ [_]⟩
    by_cases e : j = q
    ·subst e; rw [if_pos rfl, if_pos (Nat.le_refl _)]
    ·rw [if_neg e]
     by_cases e2 : q + 1 ≤ j
     ·rw [if_pos e2, if_pos (by omega)]
     ·rw [if_neg e2, if_neg (by omega)]
   ·simp only [intOf]; omega
end Go.Proofs.YtgmfiljjogdccabGreatDoor
namespace Go.Proofs.YtgmfiljjogdccabGreatDoor
open Go.RowKit
set_option linter.unusedVariables false
set_option maxHeartbeats 400000 in
theorem sameW (b1 b2 c1 c2 n : Nat) (f : Nat → Nat) (w : World) (hn : n ≤ 1000)
  (h1 : ∀ i, i < n → w.cell? ⟨b1, i, none⟩ = some (.int .u32 (f i : Nat)))
  (h2 : ∀ i, i < n → w.cell? ⟨b2, i, none⟩ = some (.int .u32 (f i : Nat))) :
  Calls Tryz.prog 34 #[.slice (some ⟨b1, 0, none⟩) n c1, .slice (some ⟨b2, 0, none⟩) n c2] w fun e w' => e = .returned (.bool true) ∧ ∃ m, w' = w.drewN m := by
 go_enter Tryz.func34, Tryz.ntmps34
 go_wp2
 go_loopw [5] (fun i wr => ∃ k : Nat, k ≤ n ∧ i = .int .i64 k ∧ ∃ m, wr = w.drewN m) (fun i _ => n - (intOf i).toNat)
 case atStart => exact ⟨0, Nat.zero_le _, rfl, 0, rfl⟩
 case round =>
  obtain ⟨k, hk, rfl, m, rfl⟩ := hrel
  by_cases hlt : k < n
  ·have g1 := h1 k hlt
   have g2 := h2 k hlt
   clear h1 h2
   obtain ⟨x, HX⟩ : ∃ x, Hid (x = f k) := ⟨_, rfl⟩
   rw [← HX.out] at g1 g2
   go_wp2
   go_quiet (fail)
   go_wp2
   go_roundw
   case rel => exact ⟨k + 1, by omega, by go_num, _, rfl⟩
   case measure => simp [intOf]; omega
  ·go_wp2
   go_ret
   exact ⟨rfl, _, rfl⟩
theorem size_nil (w : World) : Calls Tryz.prog 30 #[.pointer none] w fun e w' => e = .returned (.int .i64 0) ∧ w' = w := by
 have K1 : Hid (∀ u, Calls Tryz.prog 41 #[.pointer none] u fun e w' => e = .returned (.int .i64 1) ∧ w' = u) := hold_nil
 go_enter Tryz.func30, Tryz.ntmps30
 go_wp2_with (first | (go_at_call 41; (refine (K1.out _).mono ?_); (rintro e2 w2 ⟨rfl, hw2⟩; obtain rfl := hw2.symm)))
 go_ret
 exact ⟨rfl, rfl⟩
theorem rounds_nil (w : World) : Calls Tryz.prog 31 #[.pointer none] w fun e w' => e = .returned (.int .i64 0) ∧ w' = w := by
 have K1 : Hid (∀ u, Calls Tryz.prog 41 #[.pointer none] u fun e w' => e = .returned (.int .i64 1) ∧ w' = u) := hold_nil
 go_enter Tryz.func31, Tryz.ntmps31
 go_wp2_with (first | (go_at_call 41; (refine (K1.out _).mono ?_); (rintro e2 w2 ⟨rfl, hw2⟩; obtain rfl := hw2.symm)))
 go_ret
 exact ⟨rfl, rfl⟩
theorem words_nil (w : World) : Calls Tryz.prog 32 #[.pointer none] w fun e w' => e = .returned (.slice none 0 0) ∧ w' = w := by
 have K1 : Hid (∀ u, Calls Tryz.prog 41 #[.pointer none] u fun e w' => e = .returned (.int .i64 1) ∧ w' = u) := hold_nil
 go_enter Tryz.func32, Tryz.ntmps32
 go_wp2_with (first | (go_at_call 41; (refine (K1.out _).mono ?_); (rintro e2 w2 ⟨rfl, hw2⟩; obtain rfl := hw2.symm)))
 go_ret
 exact ⟨rfl, rfl⟩
set_option maxHeartbeats 800000 in
set_option maxRecDepth 100000 in
theorem rnew_bad (a : Option Addr) (n cap : Nat) (w : World) (h : n ≠ 16 ∧ n ≠ 24 ∧ n ≠ 32) : Calls Tryz.prog 5 #[.slice a n cap] w fun e w' => e = .returned (.tuple #[.pointer none, .int .i64 20]) ∧ w' = w := by
 have h1 : (((n : Nat) : Int) != 16) = true := by simp; omega
 have h2 : (((n : Nat) : Int) != 24) = true := by simp; omega
 have h3 : (((n : Nat) : Int) != 32) = true := by simp; omega
 clear h
 go_enter Tryz.func5, Tryz.ntmps5
 go_wp2
 go_ret2
 exact ⟨rfl, rfl⟩
end Go.Proofs.YtgmfiljjogdccabGreatDoor
namespace Go.Proofs.YtgmfiljjogdccabGreatDoor
open Go.RowKit
set_option linter.unusedVariables false
/-- A list of bytes as numbers. -/
def nat8K (zs : List Int) (i : Nat) : Nat := (zs.getD i 0).toNat
theorem nat8K_lt {zs : List Int} (h : AllBytes zs) (i : Nat) : nat8K zs i < 256 := by have := h i; unfold nat8K; omega
theorem nat8K_eq {zs : List Int} (h : AllBytes zs) (i : Nat) : ((nat8K zs i : Nat) : Int) = zs.getD i 0 := by have := h i; unfold nat8K; omega
theorem View.belowK {w u : World} {v : Value} {zs : List Int} (h : View w v zs) (hb : Below w.heap.size w u) : View u v zs := h.kept hb.block
theorem RC.belowK {w w' : World} (h : RC w) (hb : Below w.heap.size w w') (h0 : 0 < w.heap.size) : RC w' := fun i hi => (hb.cell (p := ⟨0, i, none⟩) h0).trans (h i hi)
theorem num_okK (x : Int) (w : World) : Calls Tryz.prog 6 #[.int .i64 x] w fun e w' => e = .returned (.int .i64 x) ∧ w' = w := by
 go_enter Tryz.func6, Tryz.ntmps6
 go_wp2
 go_ret
 exact ⟨rfl, rfl⟩
theorem there_sameK {u u' : World} {B o n : Nat} (h : u.there B o n) (e : u'.heap[B]? = u.heap[B]?) : u'.there B o n := fun j hj => by
 rw [World.cell?_of_block (a := ⟨B, o + j, none⟩) e, World.frozen?_of_block (a := ⟨B, o + j, none⟩) e]; exact h j hj
theorem KeyAt.sameK {u u' : World} {g nr : Nat} {K : Nat → Nat} (h : KeyAt u g nr K) (e : u'.heap[g]? = u.heap[g]?) (hs : u.heap.size ≤ u'.heap.size) : KeyAt u' g nr K := by
 have c : ∀ j : Nat, u'.cell? ⟨g, j, none⟩ = u.cell? ⟨g, j, none⟩ := fun j => World.cell?_of_block (a := ⟨g, j, none⟩) e
 exact ⟨⟨(c _).trans h.ciph.rounds, fun i hi => (c _).trans (h.ciph.words i hi), h.ciph.small, ⟨fun b hb => (c _).trans (h.ciph.tab.s b hb), fun b hb => (c _).trans (h.ciph.tab.u b hb), fun b hb => (c _).trans (h.ciph.tab.m b hb), fun b hb => (c _).trans (h.ciph.tab.n b hb)⟩, Nat.lt_of_lt_of_le h.ciph.here hs, h.ciph.some, h.ciph.most⟩, (c _).trans h.count, there_sameK h.room e⟩
theorem rnew_ok (kb ko n cap nk : Nat) (key : Nat → Nat) (w : World) (hnk : nk = 4 ∨ nk = 6 ∨ nk = 8) (hn : n = 4 * nk) (hkb : kb < w.heap.size) (hcell : ∀ i, i < n → w.cell? ⟨kb, ko + i, none⟩ = some (.int .u8 (key i : Nat))) (hkey : ∀ i, key i < 256) :
  Calls Tryz.prog 5 #[.slice (some ⟨kb, ko, none⟩) n cap] w fun e w' => ∃ gr, e = .returned (.tuple #[.pointer (some ⟨w.heap.size, 0, none⟩), .int .i64 0]) ∧ RefAt w' w.heap.size gr nk (schedK nk key) ∧ Below w.heap.size w w' := by
 subst hn
 rcases hnk with rfl | rfl | rfl
 ·exact rnew4_ok kb ko cap key w hkb hcell hkey
 ·exact rnew6_ok kb ko cap key w hkb hcell hkey
 ·exact rnew8_ok kb ko cap key w hkb hcell hkey
theorem marked_owns {B g c : Nat} {w : World} {zs : List Int} (h : w.ownsRow B 5 1 (.slice (some ⟨g, 0, none⟩) (zs.length + 70) c) (zs.length + 70) (cellsU8 (zs ++ marks 70))) : w.ownsRow B 5 1 (.slice (some ⟨g, 0, none⟩) zs.length c) zs.length (cellsU8 zs) := by
 refine ⟨by rw [cellsU8_length]; omega, .inr ?_⟩
 rcases h.2 with ⟨h', _⟩ | ⟨g', c', cur, he, h1, h2, h3, h4, h5, h6⟩
 ·cases h'
 ·simp only [Value.slice.injEq, Option.some.injEq, Addr.mk.injEq, and_true, true_and] at he
  obtain ⟨rfl, rfl⟩ := he
  refine ⟨g, c, cur, rfl, h1, h2, by omega, h4, h5, ?_⟩
  have := congrArg (List.take (zs.length * 1)) h6
  rw [List.take_take, Nat.min_eq_left (by omega), cellsU8_append, Nat.mul_one, List.take_left' (cellsU8_length zs)] at this
  rw [Nat.mul_one]
  exact this
/-- Both sides' keys. -/
structure LwS (w : World) (g g2 gr nk : Nat) (K : Nat → Nat) (u : World) : Prop where
 old : Below w.heap.size w u
 k : KeyAt u g (nk + 6) K
 r : RefAt u g2 gr nk K
 kg : w.heap.size ≤ g ∧ g < g2 ∧ g2 < gr
theorem LwS.lt {w u : World} {g g2 gr nk : Nat} {K : Nat → Nat} (h : LwS w g g2 gr nk K u) : g < u.heap.size ∧ g2 < u.heap.size ∧ gr < u.heap.size := ⟨h.k.ciph.here, h.r.lt, h.r.ltr⟩
theorem LwS.below {w u u' : World} {g g2 gr nk : Nat} {K : Nat → Nat} (h : LwS w g g2 gr nk K u) (hb : Below u.heap.size u u') : LwS w g g2 gr nk K u' :=
 ⟨h.old.trans (hb.mono h.old.size), h.k.sameK (hb.block g h.lt.1) hb.size, h.r.keep (hb.block g2 h.lt.2.1) (hb.block gr h.lt.2.2) hb.size, h.kg⟩
theorem LwS.touch {w u u' : World} {g g2 gr nk : Nat} {K : Nat → Nat} (h : LwS w g g2 gr nk K u) (ht : Touch u u' g 4 1) (hk : KeyAt u' g (nk + 6) K) : LwS w g g2 gr nk K u' := by
 have := h.kg
 exact ⟨h.old.trans (ht.toBelow this.1 h.old.size), hk, h.r.keep (ht.block g2 h.lt.2.1 (by omega)) (ht.block gr h.lt.2.2 (by omega)) ht.size, h.kg⟩
theorem LwS.grown {w u u' : World} {g g2 gr nk t : Nat} {K : Nat → Nat} (h : LwS w g g2 gr nk K u) (hg : u.grownBy u' (some t)) (ht : w.heap.size ≤ t) (h1 : t ≠ g) (h2 : t ≠ g2) (h3 : t ≠ gr) : LwS w g g2 gr nk K u' :=
 ⟨h.old.grown hg h.old.size (fun q hq => by simp at hq; omega), h.k.sameK (hg.block g h.lt.1 (by simp; omega)) hg.size, h.r.keep (hg.block g2 h.lt.2.1 (by simp; omega)) (hg.block gr h.lt.2.2 (by simp; omega)) hg.size, h.kg⟩
/-- Words where they lie. -/
structure Wr (u : World) (t m : Nat) (K : Nat → Nat) : Prop where
 lt : t < u.heap.size
 c : ∀ i, i < m → u.cell? ⟨t, i, none⟩ = some (.int .u32 (K i : Nat))
theorem Wr.same {u u' : World} {t m : Nat} {K : Nat → Nat} (h : Wr u t m K) (e : u'.heap[t]? = u.heap[t]?) (hs : u.heap.size ≤ u'.heap.size) : Wr u' t m K :=
 ⟨Nat.lt_of_lt_of_le h.lt hs, fun i hi => (World.cell?_of_block (a := ⟨t, i, none⟩) e).trans (h.c i hi)⟩
theorem Wr.below {u u' : World} {t m : Nat} {K : Nat → Nat} (h : Wr u t m K) (hb : Below u.heap.size u u') : Wr u' t m K := h.same (hb.block t h.lt) hb.size
theorem own_wr {u : World} {B m : Nat} {v : Value} {K : Nat → Nat} (h : u.ownsRow B 43 1 v m (wordsL K m)) (hm : 0 < m) : ∃ t c, v = .slice (some ⟨t, 0, none⟩) m c ∧ B ≤ t ∧ Wr u t m K := by
 have h0 := h
 rcases h.2 with ⟨_, h'⟩ | ⟨t, c, cur, rfl, h1, h2, _⟩
 ·omega
 ·refine ⟨t, c, rfl, h1, (Array.getElem?_eq_some_iff.1 h2).1, fun i hi => ?_⟩
  rw [h0.cellAt i (by omega)]
  exact wordsL_at K m i hi
theorem Touch.grownT {w w' : World} {g o n : Nat} (h : Touch w w' g o n) : w.grownBy w' (some g) := ⟨h.os, h.tape, h.output, h.size, fun k hk hne => h.block k hk (fun e => hne (by rw [e]))⟩
theorem below_drewN (u : World) (m : Nat) : Below u.heap.size u (u.drewN m) := Below.drewN (Below.refl _ _) m
end Go.Proofs.YtgmfiljjogdccabGreatDoor
