import Derived.Test.YtgmfiljjogdccabGreatDoorPart03
import Derived.Test.YtgmfiljjogdccabGreatDoorPart27
import Derived.Test.YtgmfiljjogdccabGreatDoorPart17
import Derived.Test.YtgmfiljjogdccabGreatDoorPart00
import Derived.Test.YtgmfiljjogdccabGreatDoorPart14
namespace Go.Proofs.YtgmfiljjogdccabGreatDoor
open Go.RowKit Go.RwLone Go.Conc.Locks
set_option linter.unusedVariables false
theorem there_sameG {u u' : World} {B o n : Nat} (h : u.there B o n) (e : u'.heap[B]? = u.heap[B]?) : u'.there B o n := fun j hj => by
 rw [World.cell?_of_block (a := ⟨B, o + j, none⟩) e, World.frozen?_of_block (a := ⟨B, o + j, none⟩) e]; exact h j hj
theorem setCells_frG (w : World) (b o : Nat) (L : List Value) : Fr w (w.setCells b o L) [b] :=
 ⟨setCells_os b L o w, setCells_tape b L o w, setCells_output b L o w, by rw [sizeB_setCells]; exact Nat.le_refl _, fun k hk hne => World.heap_setCells_other w b o L hk (fun e => hne (by simp [e]))⟩
/-- A key that was put away. -/
structure GoneAt (w : World) (g : Nat) : Prop where
 room : w.there g 0 1091
 lt : g < w.heap.size
 count : w.cell? ⟨g, 4, none⟩ = some (.int .i32 0)
 rounds : w.cell? ⟨g, 6, none⟩ = some (.int .i64 0)
theorem GoneAt.same {w v : World} {g : Nat} (h : GoneAt w g) (e : v.heap[g]? = w.heap[g]?) (hs : w.heap.size ≤ v.heap.size) : GoneAt v g :=
 ⟨there_sameG h.room e, Nat.lt_of_lt_of_le h.lt hs, (World.cell?_of_block (a := ⟨g, 4, none⟩) e).trans h.count, (World.cell?_of_block (a := ⟨g, 6, none⟩) e).trans h.rounds⟩
theorem GoneAt.touch {w v : World} {g : Nat} (h : GoneAt w g) (ht : Touch w v g 4 1) (hc : v.cell? ⟨g, 4, none⟩ = some (.int .i32 0)) : GoneAt v g :=
 ⟨ht.there _ _ h.room, Nat.lt_of_lt_of_le h.lt ht.size, hc, (ht.cell 6 (by omega)).trans h.rounds⟩
def gq : Option Nat → Value
 | none => .pointer none
 | some g => .pointer (some ⟨g, 0, none⟩)
/-- No key, or one that was put away; and the error's number. -/
structure Off (w : World) (k : Option Nat) (E : Int) : Prop where
 nil : k = none → E = 1
 gone : ∀ g, k = some g → GoneAt w g ∧ E = 21
structure OffP (w w' : World) (k : Option Nat) (E : Int) : Prop where
 off : Off w' k E
 nil : k = none → Below w.heap.size w w'
 tch : ∀ g, k = some g → Touch w w' g 4 1
theorem Off.e {w : World} {k : Option Nat} {E : Int} (h : Off w k E) : E = 1 ∨ E = 21 := by
 cases k with
 | none => exact .inl (h.nil rfl)
 | some g => exact .inr (h.gone g rfl).2
theorem Off.below {w v : World} {k : Option Nat} {E : Int} (h : Off w k E) (hb : Below w.heap.size w v) : Off v k E :=
 ⟨h.nil, fun g e => ⟨(h.gone g e).1.same (hb.block g (h.gone g e).1.lt) hb.size, (h.gone g e).2⟩⟩
theorem OffP.refl {w : World} {k : Option Nat} {E : Int} (h : Off w k E) : OffP w w k E := ⟨h, fun _ => Below.refl _ _, fun g _ => Touch.refl _ _ _ _⟩
theorem OffP.size {w v : World} {k : Option Nat} {E : Int} (h : OffP w v k E) : w.heap.size ≤ v.heap.size := by
 cases k with
 | none => exact (h.nil rfl).size
 | some g => exact (h.tch g rfl).size
theorem OffP.fr {w v : World} {k : Option Nat} {E : Int} (h : OffP w v k E) : Fr w v k.toList := by
 cases k with
 | none => exact below_fr (h.nil rfl) _
 | some g => exact touch_fr (h.tch g rfl)
theorem OffP.after {w u v : World} {k : Option Nat} {E : Int} (h0 : Off w k E) (hb : Below w.heap.size w u) (h : OffP u v k E) : OffP w v k E :=
 ⟨h.off, fun e => hb.trans ((h.nil e).mono hb.size), fun g e => ((Touch.refl w g 4 1).below hb (h0.gone g e).1.lt).trans (h.tch g e)⟩
theorem OffP.then {w u v : World} {k : Option Nat} {E : Int} (h : OffP w u k E) (hb : Below u.heap.size u v) : OffP w v k E :=
 ⟨h.off.below hb, fun e => (h.nil e).trans (hb.mono (h.nil e).size), fun g e => (h.tch g e).trans ((Touch.refl u g 4 1).below hb (h.off.gone g e).1.lt)⟩
theorem OffP.late {w u v : World} {k : Option Nat} {E : Int} (h : OffP w u k E) {l : List Nat} (hf : Fr u v l) (hl : ∀ b, b ∈ l → w.heap.size ≤ b) (hk : ∀ g, k = some g → g < w.heap.size) : OffP w v k E := by
 cases k with
 | none => exact ⟨⟨h.off.nil, fun g e => (by cases e)⟩, fun _ => (h.nil rfl).trans (hf.toBelow hl h.size), fun g e => (by cases e)⟩
 | some g =>
  have hg := hk g rfl
  have e : v.heap[g]? = u.heap[g]? := hf.block g (Nat.lt_of_lt_of_le hg h.size) (fun e => by have := hl g e; omega)
  have ht := h.tch g rfl
  refine ⟨⟨fun e => (by cases e), fun g' e' => by obtain rfl := Option.some.inj e'; exact ⟨(h.off.gone g rfl).1.same e hf.size, (h.off.gone g rfl).2⟩⟩, fun e => (by cases e), fun g' e' => ?_⟩
  obtain rfl := Option.some.inj e'
  refine ⟨hf.os.trans ht.os, hf.tape.trans ht.tape, hf.output.trans ht.output, Nat.le_trans ht.size hf.size, fun q hq hne => (hf.block q (Nat.lt_of_lt_of_le hq ht.size) (fun e => by have := hl q e; omega)).trans (ht.block q hq hne), fun j hj => (World.cell?_of_block (a := ⟨g, j, none⟩) e).trans (ht.cell j hj), fun o' n' h' => there_sameG (ht.there o' n' h') e⟩
set_option maxHeartbeats 1600000 in
set_option maxRecDepth 100000 in
theorem hold_gone (g : Nat) (w : World) (h : GoneAt w g) : Calls Tryz.prog 41 #[.pointer (some ⟨g, 0, none⟩)] w fun e w' => e = .returned (.int .i64 21) ∧ GoneAt w' g ∧ Touch w w' g 4 1 := by
 have HG : Hid (GoneAt w g) := h
 obtain ⟨x0, c0⟩ := cell_of_there h.room 0 (by decide)
 obtain ⟨x3, c3⟩ := cell_of_there h.room 3 (by decide)
 have hz := (h.room 4 (by decide)).2
 have hc := h.count
 have KL : Hid (Calls Tryz.prog 65 #[.pointer (some ⟨g, 0, none⟩)] w fun e w' => e = .returned (.tuple #[]) ∧ w' = w.setCell ⟨g, 4, none⟩ (.int .i32 1))  := by
  have h := rlock_open rwRLib g 0 0 x0 x3 w c0 c3 hc hz (by decide +kernel)
  rw [show wrap32 (0 + 1) = 1 by decide +kernel] at h
  exact h
 have HT : Hid (Touch w (w.setCell ⟨g, 4, none⟩ (.int .i32 1)) g 4 1) := (Touch.refl _ g 4 1).setCell 4 _ (by omega) (by omega)
 have cr : (w.setCell ⟨g, 4, none⟩ (.int .i32 1)).cell? ⟨g, 6, none⟩ = some (.int .i64 0) := (HT.out.cell 6 (by omega)).trans h.rounds
 have HC : Hid ((w.setCell ⟨g, 4, none⟩ (.int .i32 1)).cell? ⟨g, 4, none⟩ = some (.int .i32 1)) := World.cell?_setCell_same' _ _ _ (by simpa using (h.room 4 (by decide)).1)
 generalize w.setCell ⟨g, 4, none⟩ (.int .i32 1) = v at KL HT cr HC
 clear c0 c3 hz hc
 have hroom := HT.out.there _ _ h.room
 obtain ⟨x0, c0⟩ := cell_of_there hroom 0 (by decide)
 obtain ⟨x2, c2⟩ := cell_of_there hroom 2 (by decide)
 have hz := (hroom 4 (by decide)).2
 have KU : Hid (Calls Tryz.prog 42 #[.pointer (some ⟨g, 0, none⟩)] v fun e w' => e = .returned (.tuple #[]) ∧ GoneAt w' g ∧ Touch w w' g 4 1) := by
  refine (runlock_held rwRLib g 0 1 x0 x2 v c0 c2 HC.out hz (by decide +kernel)).mono ?_
  rintro e w' ⟨rfl, hw⟩
  rw [show wrap32 (1 + -1) = 0 by decide +kernel] at hw
  have hw' : w' = v.setCells g 4 [.int .i32 0] := hw
  have ht' : Touch w w' g 4 1 := by rw [hw']; exact HT.out.setCells 4 _ (by omega) (by simp)
  have hc' : w'.cell? ⟨g, 4, none⟩ = some (.int .i32 0) := by
   rw [hw]
   exact World.cell?_setCell_same' _ _ _ (by rw [show (0 + 4) = 4 from rfl, HC.out]; rfl)
  exact ⟨rfl, HG.out.touch ht' hc', ht'⟩
 clear c0 c2 hz hroom h
 go_enter Tryz.func41, Tryz.ntmps41
 go_wp2_with (first | (go_at_call 65; refine KL.out.mono ?_))
 rintro e1 w1 ⟨rfl, hw1⟩
 obtain rfl := hw1.symm
 go_wp2_with (first | (go_at_call 42; refine KU.out.mono ?_))
 rintro e2 w2 ⟨rfl, h2⟩
 have H2 : Hid (GoneAt w2 g ∧ Touch w w2 g 4 1) := h2
 clear h2
 go_wp2
 go_ret
 exact ⟨rfl, H2.out⟩
theorem hold_off (k : Option Nat) (E : Int) (w : World) (h : Off w k E) : Calls Tryz.prog 41 #[gq k] w fun e w' => e = .returned (.int .i64 E) ∧ OffP w w' k E := by
 cases k with
 | none =>
  refine (hold_nil w).mono ?_
  rintro e w' ⟨rfl, rfl⟩
  exact ⟨by rw [h.nil rfl], OffP.refl h⟩
 | some g =>
  obtain ⟨h1, rfl⟩ := h.gone g rfl
  refine (hold_gone g w h1).mono ?_
  rintro e w' ⟨rfl, h2, h3⟩
  exact ⟨rfl, ⟨fun e => (by cases e), fun g' e => by obtain rfl := Option.some.inj e; exact ⟨h2, rfl⟩⟩, fun e => (by cases e), fun g' e => by obtain rfl := Option.some.inj e; exact h3⟩
set_option maxHeartbeats 1600000 in
set_option maxRecDepth 100000 in
theorem size_off (k : Option Nat) (E : Int) (w : World) (h : Off w k E) : Calls Tryz.prog 30 #[gq k] w fun e w' => e = .returned (.int .i64 0) ∧ OffP w w' k E := by
 have HH : Hid (Calls Tryz.prog 41 #[gq k] w fun e w' => e = .returned (.int .i64 E) ∧ OffP w w' k E) := hold_off k E w h
 have hE1 : (E != 0) = true := by rcases h.e with rfl | rfl <;> rfl
 clear h
 generalize gq k = kp at HH ⊢
 go_enter Tryz.func30, Tryz.ntmps30
 go_wp2_with (first | (go_at_call 41; refine HH.out.mono ?_))
 rintro e1 w1 ⟨rfl, h1⟩
 have H1 : Hid (OffP w w1 k E) := h1
 clear h1 HH
 go_wp2
 go_ret
 exact ⟨rfl, H1.out⟩
set_option maxHeartbeats 1600000 in
set_option maxRecDepth 100000 in
theorem rounds_off (k : Option Nat) (E : Int) (w : World) (h : Off w k E) : Calls Tryz.prog 31 #[gq k] w fun e w' => e = .returned (.int .i64 0) ∧ OffP w w' k E := by
 have HH : Hid (Calls Tryz.prog 41 #[gq k] w fun e w' => e = .returned (.int .i64 E) ∧ OffP w w' k E) := hold_off k E w h
 have hE1 : (E != 0) = true := by rcases h.e with rfl | rfl <;> rfl
 clear h
 generalize gq k = kp at HH ⊢
 go_enter Tryz.func31, Tryz.ntmps31
 go_wp2_with (first | (go_at_call 41; refine HH.out.mono ?_))
 rintro e1 w1 ⟨rfl, h1⟩
 have H1 : Hid (OffP w w1 k E) := h1
 clear h1 HH
 go_wp2
 go_ret
 exact ⟨rfl, H1.out⟩
set_option maxHeartbeats 1600000 in
set_option maxRecDepth 100000 in
theorem words_off (k : Option Nat) (E : Int) (w : World) (h : Off w k E) : Calls Tryz.prog 32 #[gq k] w fun e w' => e = .returned (.slice none 0 0) ∧ OffP w w' k E := by
 have HH : Hid (Calls Tryz.prog 41 #[gq k] w fun e w' => e = .returned (.int .i64 E) ∧ OffP w w' k E) := hold_off k E w h
 have hE1 : (E != 0) = true := by rcases h.e with rfl | rfl <;> rfl
 clear h
 generalize gq k = kp at HH ⊢
 go_enter Tryz.func32, Tryz.ntmps32
 go_wp2_with (first | (go_at_call 41; refine HH.out.mono ?_))
 rintro e1 w1 ⟨rfl, h1⟩
 have H1 : Hid (OffP w w1 k E) := h1
 clear h1 HH
 go_wp2
 go_ret
 exact ⟨rfl, H1.out⟩
set_option maxHeartbeats 1600000 in
set_option maxRecDepth 100000 in
theorem wrap_off (k : Option Nat) (E : Int) (D : Value) (w : World) (h : Off w k E) : Calls Tryz.prog 26 #[gq k, D] w fun e w' => e = .returned (.tuple #[.slice none 0 0, .int .i64 E]) ∧ OffP w w' k E := by
 have HH : Hid (Calls Tryz.prog 41 #[gq k] w fun e w' => e = .returned (.int .i64 E) ∧ OffP w w' k E) := hold_off k E w h
 have hE1 : (E != 0) = true := by rcases h.e with rfl | rfl <;> rfl
 clear h
 generalize gq k = kp at HH ⊢
 go_enter Tryz.func26, Tryz.ntmps26
 go_wp2_with (first | (go_at_call 41; refine HH.out.mono ?_))
 rintro e1 w1 ⟨rfl, h1⟩
 have H1 : Hid (OffP w w1 k E) := h1
 clear h1 HH
 go_wp2
 go_ret2
 exact ⟨rfl, H1.out⟩
set_option maxHeartbeats 1600000 in
set_option maxRecDepth 100000 in
theorem unwrap_off (k : Option Nat) (E : Int) (D : Value) (w : World) (h : Off w k E) : Calls Tryz.prog 28 #[gq k, D] w fun e w' => e = .returned (.tuple #[.slice none 0 0, .int .i64 E]) ∧ OffP w w' k E := by
 have HH : Hid (Calls Tryz.prog 41 #[gq k] w fun e w' => e = .returned (.int .i64 E) ∧ OffP w w' k E) := hold_off k E w h
 have hE1 : (E != 0) = true := by rcases h.e with rfl | rfl <;> rfl
 clear h
 generalize gq k = kp at HH ⊢
 go_enter Tryz.func28, Tryz.ntmps28
 go_wp2_with (first | (go_at_call 41; refine HH.out.mono ?_))
 rintro e1 w1 ⟨rfl, h1⟩
 have H1 : Hid (OffP w w1 k E) := h1
 clear h1 HH
 go_wp2
 go_ret2
 exact ⟨rfl, H1.out⟩
set_option maxHeartbeats 1600000 in
set_option maxRecDepth 100000 in
theorem xor_nil (D : Value) (w : World) : Calls Tryz.prog 13 #[.pointer none, D] w fun e w' => e = .returned (.tuple #[.slice none 0 0, .int .i64 1]) ∧ w' = w := by
 go_enter Tryz.func13, Tryz.ntmps13
 go_wp2
 go_ret2
 exact ⟨rfl, rfl⟩
set_option maxHeartbeats 1600000 in
set_option maxRecDepth 100000 in
theorem skip_nil (D : Value) (w : World) : Calls Tryz.prog 17 #[.pointer none, D] w fun e w' => e = .returned (.int .i64 1) ∧ w' = w := by
 go_enter Tryz.func17, Tryz.ntmps17
 go_wp2
 go_ret
 exact ⟨rfl, rfl⟩
theorem at_nil (w : World) : Calls Tryz.prog 49 #[.pointer none] w fun e w' => e = .returned (.int .u64 0) ∧ w' = w := by
 go_enter Tryz.func49, Tryz.ntmps49
 go_wp2
 go_ret
 exact ⟨rfl, rfl⟩
set_option maxHeartbeats 1600000 in
set_option maxRecDepth 100000 in
theorem xor_gone (t g n : Nat) (s0 : W4) (D : Value) (w : World) (h : GoneAt w g) (hs : StreamAt w t g s0 n) : Calls Tryz.prog 13 #[.pointer (some ⟨t, 0, none⟩), D] w fun e w' => e = .returned (.tuple #[.slice none 0 0, .int .i64 21]) ∧ GoneAt w' g ∧ Touch w w' g 4 1 := by
 have HH : Hid (Calls Tryz.prog 41 #[.pointer (some ⟨g, 0, none⟩)] w fun e w' => e = .returned (.int .i64 21) ∧ GoneAt w' g ∧ Touch w w' g 4 1) := hold_gone g w h
 have ck := hs.key
 clear h hs
 go_enter Tryz.func13, Tryz.ntmps13
 go_wp2_with (first | (go_at_call 41; refine HH.out.mono ?_))
 rintro e1 w1 ⟨rfl, h1⟩
 have H1 : Hid (GoneAt w1 g ∧ Touch w w1 g 4 1) := h1
 clear h1 HH ck
 go_wp2
 go_ret2
 exact ⟨rfl, H1.out⟩
set_option maxHeartbeats 1600000 in
set_option maxRecDepth 100000 in
theorem skip_gone (t g n : Nat) (s0 : W4) (D : Value) (w : World) (h : GoneAt w g) (hs : StreamAt w t g s0 n) : Calls Tryz.prog 17 #[.pointer (some ⟨t, 0, none⟩), D] w fun e w' => e = .returned (.int .i64 21) ∧ GoneAt w' g ∧ Touch w w' g 4 1 := by
 have HH : Hid (Calls Tryz.prog 41 #[.pointer (some ⟨g, 0, none⟩)] w fun e w' => e = .returned (.int .i64 21) ∧ GoneAt w' g ∧ Touch w w' g 4 1) := hold_gone g w h
 have ck := hs.key
 clear h hs
 go_enter Tryz.func17, Tryz.ntmps17
 go_wp2_with (first | (go_at_call 41; refine HH.out.mono ?_))
 rintro e1 w1 ⟨rfl, h1⟩
 have H1 : Hid (GoneAt w1 g ∧ Touch w w1 g 4 1) := h1
 clear h1 HH ck
 go_wp2
 go_ret
 exact ⟨rfl, H1.out⟩
set_option maxHeartbeats 1600000 in
set_option maxRecDepth 100000 in
theorem kenc_off (k : Option Nat) (E : Int) (f : Nat → Nat) (w : World) (h : Off w k E) : Calls Tryz.prog 21 #[gq k, .agg (arA f)] w fun e w' => e = .returned (.tuple #[.agg z16, .int .i64 E]) ∧ OffP w w' k E := by
 have K1 : Hid (∀ u, Off u k E → Calls Tryz.prog 41 #[gq k] u fun e w' => e = .returned (.int .i64 E) ∧ OffP u w' k E) := fun u hu => hold_off k E u hu
 have HO : Hid (Off w k E) := h
 have hE1 : (E != 0) = true := by rcases h.e with rfl | rfl <;> rfl
 clear h
 have HI : Hid (Below w.heap.size w _ ∧ Ar _ w.heap.size f ∧ Ar _ (w.heap.size + 1) zero8) := ar_two w f 38 38
 unfold arA z16 at HI
 unfold arA z16
 generalize gq k = kp at K1 ⊢
 go_enter Tryz.func21, Tryz.ntmps21
 go_upto_region 1 with fail
 generalize ((w.alloc (.cells #[.int .u8 (f 0 : Nat), .int .u8 (f 1 : Nat), .int .u8 (f 2 : Nat), .int .u8 (f 3 : Nat), .int .u8 (f 4 : Nat), .int .u8 (f 5 : Nat), .int .u8 (f 6 : Nat), .int .u8 (f 7 : Nat), .int .u8 (f 8 : Nat), .int .u8 (f 9 : Nat), .int .u8 (f 10 : Nat), .int .u8 (f 11 : Nat), .int .u8 (f 12 : Nat), .int .u8 (f 13 : Nat), .int .u8 (f 14 : Nat), .int .u8 (f 15 : Nat)] 38)).alloc (.cells #[.int .u8 0, .int .u8 0, .int .u8 0, .int .u8 0, .int .u8 0, .int .u8 0, .int .u8 0, .int .u8 0, .int .u8 0, .int .u8 0, .int .u8 0, .int .u8 0, .int .u8 0, .int .u8 0, .int .u8 0, .int .u8 0] 38)) = w2 at HI ⊢
 go_wp2_with (first | (go_at_call 41; (refine (K1.out _ (HO.out.below HI.out.1)).mono ?_)))
 rintro e3 w3 ⟨rfl, h3⟩
 have HT : Hid (OffP w2 w3 k E ∧ w3.there (w.heap.size + 1) 0 16) := by
  refine ⟨h3, ?_⟩
  have e3 : w3.heap[w.heap.size + 1]? = w2.heap[w.heap.size + 1]? := h3.fr.block _ (World.block_lt_of_cell? w2 _ (HI.out.2.2.c 0 (by decide))) (fun e => by
   cases k with
   | none => cases e
   | some g => have := (HO.out.gone g rfl).1.lt; simp at e; omega)
  exact there_sameG HI.out.2.2.t e3
 clear h3
 go_wp2_with (first | (refine wpList_store_mid (by rfl) 38 (.tmp 4) (.tmp 11) (by rfl) (w.heap.size + 1) 0 #[.int .u8 0, .int .u8 0, .int .u8 0, .int .u8 0, .int .u8 0, .int .u8 0, .int .u8 0, .int .u8 0, .int .u8 0, .int .u8 0, .int .u8 0, .int .u8 0, .int .u8 0, .int .u8 0, .int .u8 0, .int .u8 0] (by rfl) (by rfl) HT.out.2 size42 (by kernel_rfl) ?_))
 refine ret_array_tmp (#[.int .u8 0, .int .u8 0, .int .u8 0, .int .u8 0, .int .u8 0, .int .u8 0, .int .u8 0, .int .u8 0, .int .u8 0, .int .u8 0, .int .u8 0, .int .u8 0, .int .u8 0, .int .u8 0, .int .u8 0, .int .u8 0]).toList (.int .i64 E) Tryz.results21 rfl rfl ?_ Tryz.underlying38 rfl size42 ⟨rfl, ?_⟩
 ·exact World.rangeAt_setCells_same _ _ _ _ HT.out.2
 ·have h0 := OffP.after HO.out HI.out.1 HT.out.1
  have hf : Fr w3 (w3.setCells (w.heap.size + 1) 0 (#[.int .u8 0, .int .u8 0, .int .u8 0, .int .u8 0, .int .u8 0, .int .u8 0, .int .u8 0, .int .u8 0, .int .u8 0, .int .u8 0, .int .u8 0, .int .u8 0, .int .u8 0, .int .u8 0, .int .u8 0, .int .u8 0] : Array Value).toList) [w.heap.size + 1] := setCells_frG _ _ _ _
  exact h0.late hf (fun b hb => by simp at hb; omega) (fun g e => (HO.out.gone g e).1.lt)
set_option maxHeartbeats 1600000 in
set_option maxRecDepth 100000 in
theorem kdec_off (k : Option Nat) (E : Int) (f : Nat → Nat) (w : World) (h : Off w k E) : Calls Tryz.prog 22 #[gq k, .agg (arA f)] w fun e w' => e = .returned (.tuple #[.agg z16, .int .i64 E]) ∧ OffP w w' k E := by
 have K1 : Hid (∀ u, Off u k E → Calls Tryz.prog 41 #[gq k] u fun e w' => e = .returned (.int .i64 E) ∧ OffP u w' k E) := fun u hu => hold_off k E u hu
 have HO : Hid (Off w k E) := h
 have hE1 : (E != 0) = true := by rcases h.e with rfl | rfl <;> rfl
 clear h
 have HI : Hid (Below w.heap.size w _ ∧ Ar _ w.heap.size f ∧ Ar _ (w.heap.size + 1) zero8) := ar_two w f 38 38
 unfold arA z16 at HI
 unfold arA z16
 generalize gq k = kp at K1 ⊢
 go_enter Tryz.func22, Tryz.ntmps22
 go_upto_region 1 with fail
 generalize ((w.alloc (.cells #[.int .u8 (f 0 : Nat), .int .u8 (f 1 : Nat), .int .u8 (f 2 : Nat), .int .u8 (f 3 : Nat), .int .u8 (f 4 : Nat), .int .u8 (f 5 : Nat), .int .u8 (f 6 : Nat), .int .u8 (f 7 : Nat), .int .u8 (f 8 : Nat), .int .u8 (f 9 : Nat), .int .u8 (f 10 : Nat), .int .u8 (f 11 : Nat), .int .u8 (f 12 : Nat), .int .u8 (f 13 : Nat), .int .u8 (f 14 : Nat), .int .u8 (f 15 : Nat)] 38)).alloc (.cells #[.int .u8 0, .int .u8 0, .int .u8 0, .int .u8 0, .int .u8 0, .int .u8 0, .int .u8 0, .int .u8 0, .int .u8 0, .int .u8 0, .int .u8 0, .int .u8 0, .int .u8 0, .int .u8 0, .int .u8 0, .int .u8 0] 38)) = w2 at HI ⊢
 go_wp2_with (first | (go_at_call 41; (refine (K1.out _ (HO.out.below HI.out.1)).mono ?_)))
 rintro e3 w3 ⟨rfl, h3⟩
 have HT : Hid (OffP w2 w3 k E ∧ w3.there (w.heap.size + 1) 0 16) := by
  refine ⟨h3, ?_⟩
  have e3 : w3.heap[w.heap.size + 1]? = w2.heap[w.heap.size + 1]? := h3.fr.block _ (World.block_lt_of_cell? w2 _ (HI.out.2.2.c 0 (by decide))) (fun e => by
   cases k with
   | none => cases e
   | some g => have := (HO.out.gone g rfl).1.lt; simp at e; omega)
  exact there_sameG HI.out.2.2.t e3
 clear h3
 go_wp2_with (first | (refine wpList_store_mid (by rfl) 38 (.tmp 4) (.tmp 11) (by rfl) (w.heap.size + 1) 0 #[.int .u8 0, .int .u8 0, .int .u8 0, .int .u8 0, .int .u8 0, .int .u8 0, .int .u8 0, .int .u8 0, .int .u8 0, .int .u8 0, .int .u8 0, .int .u8 0, .int .u8 0, .int .u8 0, .int .u8 0, .int .u8 0] (by rfl) (by rfl) HT.out.2 size42 (by kernel_rfl) ?_))
 refine ret_array_tmp (#[.int .u8 0, .int .u8 0, .int .u8 0, .int .u8 0, .int .u8 0, .int .u8 0, .int .u8 0, .int .u8 0, .int .u8 0, .int .u8 0, .int .u8 0, .int .u8 0, .int .u8 0, .int .u8 0, .int .u8 0, .int .u8 0]).toList (.int .i64 E) Tryz.results22 rfl rfl ?_ Tryz.underlying38 rfl size42 ⟨rfl, ?_⟩
 ·exact World.rangeAt_setCells_same _ _ _ _ HT.out.2
 ·have h0 := OffP.after HO.out HI.out.1 HT.out.1
  have hf : Fr w3 (w3.setCells (w.heap.size + 1) 0 (#[.int .u8 0, .int .u8 0, .int .u8 0, .int .u8 0, .int .u8 0, .int .u8 0, .int .u8 0, .int .u8 0, .int .u8 0, .int .u8 0, .int .u8 0, .int .u8 0, .int .u8 0, .int .u8 0, .int .u8 0, .int .u8 0] : Array Value).toList) [w.heap.size + 1] := setCells_frG _ _ _ _
  exact h0.late hf (fun b hb => by simp at hb; omega) (fun g e => (HO.out.gone g e).1.lt)
end Go.Proofs.YtgmfiljjogdccabGreatDoor
namespace Go.Proofs.YtgmfiljjogdccabGreatDoor
open Go.RowKit
set_option linter.unusedVariables false
theorem rrounds_ok (g gr nk : Nat) (K : Nat → Nat) (w : World) (h : RefAt w g gr nk K) (hn : nk ≤ 8) : Calls Tryz.prog 33 #[.pointer (some ⟨g, 0, none⟩)] w fun e w' => e = .returned (.int .i64 (nk + 6 : Nat)) ∧ w' = w := by
 obtain ⟨p, c, hb⟩ := h.bytes
 clear h
 have hd : ((4 * nk : Nat) : Int).tdiv 4 = ((nk : Nat) : Int) := by rw [Int.tdiv_eq_ediv_of_nonneg (by omega)]; omega
 have hni : ((nk : Nat) : Int) ≤ 8 := by omega
 obtain ⟨m, HM⟩ : ∃ m, Hid (m = 4 * nk) := ⟨_, rfl⟩
 rw [← HM.out] at hb hd
 go_enter Tryz.func33, Tryz.ntmps33
 go_wp2
 go_ret
 exact ⟨by simp, rfl⟩
theorem wordsL_succ (K : Nat → Nat) (m : Nat) : wordsL K (m + 1) = wordsL K m ++ [.int .u32 (K m : Nat)] := by simp [wordsL, List.range_succ]
set_option maxHeartbeats 3200000 in
set_option maxRecDepth 100000 in
theorem rwords_ok (g gr nk : Nat) (K : Nat → Nat) (w : World) (h : RefAt w g gr nk K) (hn : nk ≤ 8) (hK : ∀ j, K j < 4294967296) : Calls Tryz.prog 35 #[.pointer (some ⟨g, 0, none⟩)] w fun e w' => ∃ v, e = .returned v ∧ w'.ownsRow w.heap.size 43 1 v (4 * (nk + 7)) (wordsL K (4 * (nk + 7))) ∧ Below w.heap.size w w' := by
 obtain ⟨i0, hi, hz0, hz1, hz2⟩ := info_parts Tryz.info50
 have HI0 : Hid (Tryz.prog.info? 43 = some i0 ∧ i0.zero = some (.int .u32 0) ∧ i0.size = 1 ∧ i0.bytes = 4) := ⟨hi, hz0, hz1, hz2⟩
 clear hi hz0 hz1 hz2
 obtain ⟨c, hr⟩ := h.round
 have HH : Hid (RefAt w g gr nk K) := h
 have HKl : Hid (∀ j, K j < 4294967296) := hK
 clear h hK
 obtain ⟨m, HM⟩ : ∃ m, Hid (m = 16 * (nk + 7)) := ⟨_, rfl⟩
 rw [← HM.out] at hr
 have hm : m ≤ 240 := by have := HM.out; omega
 have HR : Hid (w.cell? ⟨g, 1, none⟩ = some (.slice (some ⟨gr, 0, none⟩) m c)) := hr
 clear hr
 go_enter Tryz.func35, Tryz.ntmps35
 go_wp2
 go_loopw [3, 4] (fun l i wr => ∃ k n : Nat, k ≤ 4 * (nk + 7) ∧ i = .int .i64 (n : Nat) ∧ Hid (n = 4 * k ∧ wr.ownsRow w.heap.size 43 1 l k (wordsL K k) ∧ Below w.heap.size w wr)) (fun _ i _ => m - (intOf i).toNat)
 case atStart => exact ⟨0, 0, by omega, rfl, rfl, World.ownsRow_nil _ _ _ _, Below.refl _ _⟩
 case round =>
  obtain ⟨k, n, hk, rfl, HJ⟩ := hrel
  have hcr : wr.cell? ⟨g, 1, none⟩ = some (.slice (some ⟨gr, 0, none⟩) m c) := (HJ.out.2.2.cell (p := ⟨g, 1, none⟩) HH.out.lt).trans HR.out
  by_cases hlt : k < 4 * (nk + 7)
  ·have hnm : n + 4 ≤ m := by have h1 := HJ.out.1; have h2 := HM.out; omega
   have hb0 : ((n : Nat) : Int) < ((m : Nat) : Int) := by omega
   have hw0 : IntKind.i64.wrap ((n : Nat) : Int) = ((n : Nat) : Int) := wraps_i64 _ (by omega) (by omega)

   obtain ⟨n1, HN1⟩ : ∃ q, Hid (q = n + 1) := ⟨_, rfl⟩
   have hn1 : ((n : Nat) : Int) + 1 = ((n1 : Nat) : Int) := by have := HN1.out; omega
   have hb1 : ((n1 : Nat) : Int) < ((m : Nat) : Int) := by have := HN1.out; omega
   have hw1 : IntKind.i64.wrap ((n1 : Nat) : Int) = ((n1 : Nat) : Int) := wraps_i64 _ (by omega) (by omega)
   obtain ⟨n2, HN2⟩ : ∃ q, Hid (q = n + 2) := ⟨_, rfl⟩
   have hn2 : ((n : Nat) : Int) + 2 = ((n2 : Nat) : Int) := by have := HN2.out; omega
   have hb2 : ((n2 : Nat) : Int) < ((m : Nat) : Int) := by have := HN2.out; omega
   have hw2 : IntKind.i64.wrap ((n2 : Nat) : Int) = ((n2 : Nat) : Int) := wraps_i64 _ (by omega) (by omega)
   obtain ⟨n3, HN3⟩ : ∃ q, Hid (q = n + 3) := ⟨_, rfl⟩
   have hn3 : ((n : Nat) : Int) + 3 = ((n3 : Nat) : Int) := by have := HN3.out; omega
   have hb3 : ((n3 : Nat) : Int) < ((m : Nat) : Int) := by have := HN3.out; omega
   have hw3 : IntKind.i64.wrap ((n3 : Nat) : Int) = ((n3 : Nat) : Int) := wraps_i64 _ (by omega) (by omega)
   obtain ⟨b0, HB0⟩ : ∃ r, Hid (r = rb K n) := ⟨_, rfl⟩
   have l0 : b0 < 256 := by rw [HB0.out]; exact rb_lt _ _
   have C0 : wr.drew.cell? ⟨gr, n, none⟩ = some (.int .u8 (b0 : Nat)) := by
    show wr.cell? ⟨gr, n, none⟩ = _
    rw [HJ.out.2.2.cell (p := ⟨gr, n, none⟩) HH.out.ltr, HH.out.cells n (by have h2 := HM.out; omega), HB0.out]
   have hv0 : IntKind.u32.wrap ((b0 : Nat) : Int) = ((b0 : Nat) : Int) := wraps_u32 _ (by omega) (by omega)
   obtain ⟨b1, HB1⟩ : ∃ r, Hid (r = rb K n1) := ⟨_, rfl⟩
   have l1 : b1 < 256 := by rw [HB1.out]; exact rb_lt _ _
   have C1 : wr.drew.cell? ⟨gr, n1, none⟩ = some (.int .u8 (b1 : Nat)) := by
    show wr.cell? ⟨gr, n1, none⟩ = _
    rw [HJ.out.2.2.cell (p := ⟨gr, n1, none⟩) HH.out.ltr, HH.out.cells n1 (by have h2 := HM.out; omega), HB1.out]
   have hv1 : IntKind.u32.wrap ((b1 : Nat) : Int) = ((b1 : Nat) : Int) := wraps_u32 _ (by omega) (by omega)
   obtain ⟨b2, HB2⟩ : ∃ r, Hid (r = rb K n2) := ⟨_, rfl⟩
   have l2 : b2 < 256 := by rw [HB2.out]; exact rb_lt _ _
   have C2 : wr.drew.cell? ⟨gr, n2, none⟩ = some (.int .u8 (b2 : Nat)) := by
    show wr.cell? ⟨gr, n2, none⟩ = _
    rw [HJ.out.2.2.cell (p := ⟨gr, n2, none⟩) HH.out.ltr, HH.out.cells n2 (by have h2 := HM.out; omega), HB2.out]
   have hv2 : IntKind.u32.wrap ((b2 : Nat) : Int) = ((b2 : Nat) : Int) := wraps_u32 _ (by omega) (by omega)
   obtain ⟨b3, HB3⟩ : ∃ r, Hid (r = rb K n3) := ⟨_, rfl⟩
   have l3 : b3 < 256 := by rw [HB3.out]; exact rb_lt _ _
   have C3 : wr.drew.cell? ⟨gr, n3, none⟩ = some (.int .u8 (b3 : Nat)) := by
    show wr.cell? ⟨gr, n3, none⟩ = _
    rw [HJ.out.2.2.cell (p := ⟨gr, n3, none⟩) HH.out.ltr, HH.out.cells n3 (by have h2 := HM.out; omega), HB3.out]
   have hv3 : IntKind.u32.wrap ((b3 : Nat) : Int) = ((b3 : Nat) : Int) := wraps_u32 _ (by omega) (by omega)
   obtain ⟨y0, HY0⟩ : ∃ r, Hid (r = b0 * 16777216) := ⟨_, rfl⟩
   have hy0 : ((b0 : Nat) : Int) * 16777216 = ((y0 : Nat) : Int) := by rw [HY0.out]; omega
   have hz0 : IntKind.u32.wrap ((y0 : Nat) : Int) = ((y0 : Nat) : Int) := wraps_u32 _ (by omega) (by rw [HY0.out]; omega)
   obtain ⟨y1, HY1⟩ : ∃ r, Hid (r = b1 * 65536) := ⟨_, rfl⟩
   have hy1 : ((b1 : Nat) : Int) * 65536 = ((y1 : Nat) : Int) := by rw [HY1.out]; omega
   have hz1 : IntKind.u32.wrap ((y1 : Nat) : Int) = ((y1 : Nat) : Int) := wraps_u32 _ (by omega) (by rw [HY1.out]; omega)
   obtain ⟨y2, HY2⟩ : ∃ r, Hid (r = b2 * 256) := ⟨_, rfl⟩
   have hy2 : ((b2 : Nat) : Int) * 256 = ((y2 : Nat) : Int) := by rw [HY2.out]; omega
   have hz2 : IntKind.u32.wrap ((y2 : Nat) : Int) = ((y2 : Nat) : Int) := wraps_u32 _ (by omega) (by rw [HY2.out]; omega)
   obtain ⟨z1, HZ1⟩ : ∃ r, Hid (r = y0 + y1) := ⟨_, rfl⟩
   obtain ⟨z2, HZ2⟩ : ∃ r, Hid (r = z1 + y2) := ⟨_, rfl⟩
   obtain ⟨x, HX⟩ : ∃ r, Hid (r = K k) := ⟨_, rfl⟩
   have ho1 : bits .or .u32 ((y0 : Nat) : Int) ((y1 : Nat) : Int) = ((z1 : Nat) : Int) := by
    rw [HZ1.out, HY0.out, HY1.out]
    exact joins 24 (b0 * 16777216) (b1 * 65536) (by omega) (by omega) (by omega) (by omega) (by omega)
   have ho2 : bits .or .u32 ((z1 : Nat) : Int) ((y2 : Nat) : Int) = ((z2 : Nat) : Int) := by
    rw [HZ2.out, HZ1.out, HY0.out, HY1.out, HY2.out]
    exact joins 16 (b0 * 16777216 + b1 * 65536) (b2 * 256) (by omega) (by omega) (by omega) (by omega) (by omega)
   have ho3 : bits .or .u32 ((z2 : Nat) : Int) ((b3 : Nat) : Int) = ((x : Nat) : Int) := by
    have e := rb_wd K k (HKl.out k)
    have hn4 := HJ.out.1
    rw [← hn4, ← HN1.out, ← HN2.out, ← HN3.out, ← HB0.out, ← HB1.out, ← HB2.out, ← HB3.out] at e
    rw [HX.out, ← e, HZ2.out, HZ1.out, HY0.out, HY1.out, HY2.out]
    exact joins 8 (b0 * 16777216 + b1 * 65536 + b2 * 256) b3 (by omega) (by omega) (by omega) (by omega) (by omega)
   have hSt : wr.drew.cell? ⟨g, 1, none⟩ = some (.slice (some ⟨gr, 0, none⟩) m c) ∧ wr.drew.cell? ⟨gr, n, none⟩ = some (.int .u8 (b0 : Nat)) ∧ wr.drew.cell? ⟨gr, n1, none⟩ = some (.int .u8 (b1 : Nat)) ∧ wr.drew.cell? ⟨gr, n2, none⟩ = some (.int .u8 (b2 : Nat)) ∧ wr.drew.cell? ⟨gr, n3, none⟩ = some (.int .u8 (b3 : Nat)) := ⟨hcr, C0, C1, C2, C3⟩
   clear C0 C1 C2 C3
   go_upto_region 5 with fail
   clear hcr
   refine wp_region_noPanic ?_
   refine wp_region_held_drew (S := fun u => u.cell? ⟨g, 1, none⟩ = some (.slice (some ⟨gr, 0, none⟩) m c) ∧ u.cell? ⟨gr, n, none⟩ = some (.int .u8 (b0 : Nat)) ∧ u.cell? ⟨gr, n1, none⟩ = some (.int .u8 (b1 : Nat)) ∧ u.cell? ⟨gr, n2, none⟩ = some (.int .u8 (b2 : Nat)) ∧ u.cell? ⟨gr, n3, none⟩ = some (.int .u8 (b3 : Nat))) (by kernel_rfl) (hSt) (fun _ => ?_)
   refine tG 0 14 (u3) rfl rfl hSt ?_
   simp only [pU]
   refine tG 1 15 (.pointer (some ⟨g, 0, none⟩)) rfl rfl hSt ?_
   simp only [pU]
   refine tG 2 16 (.pointer (some ⟨g, 0, none⟩)) rfl rfl hSt ?_
   simp only [pU]
   refine tG 3 17 (.pointer (some ⟨g, 1, none⟩)) rfl rfl hSt ?_
   simp only [pU]
   refine tH 4 18 (.slice (some ⟨gr, 0, none⟩) m c) rfl rfl (by kernel_rfl) (hSt) (Or.inl ⟨by rfl, fun w' hS' => by have q1 := hS'.1; go_simp⟩) ?_
   simp only [pU]
   refine tG 5 19 (.int .i64 (n : Nat)) rfl rfl hSt ?_
   simp only [pU]
   refine tG 6 20 (.pointer (some ⟨gr, n, none⟩)) rfl rfl hSt ?_
   simp only [pU]
   refine tH 7 21 (.int .u8 (b0 : Nat)) rfl rfl (by kernel_rfl) (hSt) (Or.inl ⟨by rfl, fun w' hS' => by have q1 := hS'.2.1; go_simp⟩) ?_
   simp only [pU]
   refine tG 8 22 (.int .u32 (b0 : Nat)) rfl rfl hSt ?_
   simp only [pU]
   refine tG 9 23 (.int .u32 (y0 : Nat)) rfl rfl hSt ?_
   simp only [pU]
   refine tG 10 24 (.pointer (some ⟨g, 0, none⟩)) rfl rfl hSt ?_
   simp only [pU]
   refine tG 11 25 (.pointer (some ⟨g, 0, none⟩)) rfl rfl hSt ?_
   simp only [pU]
   refine tG 12 26 (.pointer (some ⟨g, 1, none⟩)) rfl rfl hSt ?_
   simp only [pU]
   refine tH 13 27 (.slice (some ⟨gr, 0, none⟩) m c) rfl rfl (by kernel_rfl) (hSt) (Or.inl ⟨by rfl, fun w' hS' => by have q1 := hS'.1; go_simp⟩) ?_
   simp only [pU]
   refine tG 14 28 (.int .i64 (n : Nat)) rfl rfl hSt ?_
   simp only [pU]
   refine tG 15 29 (.int .i64 (n1 : Nat)) rfl rfl hSt ?_
   simp only [pU]
   refine tG 16 30 (.pointer (some ⟨gr, n1, none⟩)) rfl rfl hSt ?_
   simp only [pU]
   refine tH 17 31 (.int .u8 (b1 : Nat)) rfl rfl (by kernel_rfl) (hSt) (Or.inl ⟨by rfl, fun w' hS' => by have q1 := hS'.2.2.1; go_simp⟩) ?_
   simp only [pU]
   refine tG 18 32 (.int .u32 (b1 : Nat)) rfl rfl hSt ?_
   simp only [pU]
   refine tG 19 33 (.int .u32 (y1 : Nat)) rfl rfl hSt ?_
   simp only [pU]
   refine tG 20 34 (.int .u32 (z1 : Nat)) rfl rfl hSt ?_
   simp only [pU]
   refine tG 21 35 (.pointer (some ⟨g, 0, none⟩)) rfl rfl hSt ?_
   simp only [pU]
   refine tG 22 36 (.pointer (some ⟨g, 0, none⟩)) rfl rfl hSt ?_
   simp only [pU]
   refine tG 23 37 (.pointer (some ⟨g, 1, none⟩)) rfl rfl hSt ?_
   simp only [pU]
   refine tH 24 38 (.slice (some ⟨gr, 0, none⟩) m c) rfl rfl (by kernel_rfl) (hSt) (Or.inl ⟨by rfl, fun w' hS' => by have q1 := hS'.1; go_simp⟩) ?_
   simp only [pU]
   refine tG 25 39 (.int .i64 (n : Nat)) rfl rfl hSt ?_
   simp only [pU]
   refine tG 26 40 (.int .i64 (n2 : Nat)) rfl rfl hSt ?_
   simp only [pU]
   refine tG 27 41 (.pointer (some ⟨gr, n2, none⟩)) rfl rfl hSt ?_
   simp only [pU]
   refine tH 28 42 (.int .u8 (b2 : Nat)) rfl rfl (by kernel_rfl) (hSt) (Or.inl ⟨by rfl, fun w' hS' => by have q1 := hS'.2.2.2.1; go_simp⟩) ?_
   simp only [pU]
   refine tG 29 43 (.int .u32 (b2 : Nat)) rfl rfl hSt ?_
   simp only [pU]
   refine tG 30 44 (.int .u32 (y2 : Nat)) rfl rfl hSt ?_
   simp only [pU]
   refine tG 31 45 (.int .u32 (z2 : Nat)) rfl rfl hSt ?_
   simp only [pU]
   refine tG 32 46 (.pointer (some ⟨g, 0, none⟩)) rfl rfl hSt ?_
   simp only [pU]
   refine tG 33 47 (.pointer (some ⟨g, 0, none⟩)) rfl rfl hSt ?_
   simp only [pU]
   refine tG 34 48 (.pointer (some ⟨g, 1, none⟩)) rfl rfl hSt ?_
   simp only [pU]
   refine tH 35 49 (.slice (some ⟨gr, 0, none⟩) m c) rfl rfl (by kernel_rfl) (hSt) (Or.inl ⟨by rfl, fun w' hS' => by have q1 := hS'.1; go_simp⟩) ?_
   simp only [pU]
   refine tG 36 50 (.int .i64 (n : Nat)) rfl rfl hSt ?_
   simp only [pU]
   refine tG 37 51 (.int .i64 (n3 : Nat)) rfl rfl hSt ?_
   simp only [pU]
   refine tG 38 52 (.pointer (some ⟨gr, n3, none⟩)) rfl rfl hSt ?_
   simp only [pU]
   refine tH 39 53 (.int .u8 (b3 : Nat)) rfl rfl (by kernel_rfl) (hSt) (Or.inl ⟨by rfl, fun w' hS' => by have q1 := hS'.2.2.2.2; go_simp⟩) ?_
   simp only [pU]
   refine tG 40 54 (.int .u32 (b3 : Nat)) rfl rfl hSt ?_
   simp only [pU]
   refine tG 41 55 (.int .u32 (x : Nat)) rfl rfl hSt ?_
   simp only [pU]
   refine wpAnyH_ready (rs := [42]) (by kernel_rfl) (by simp) ?_
   refine AllReadyH.cons rfl (fun Kx hK => ?_) AllReadyH.nil
   rw [if_pos (by kernel_rfl)]
   go_simp
   have hB2 : Below wr.heap.size wr (wr.alloc (.cells #[.int .u32 (x : Nat)] 43)).drew := ((Below.refl _ wr).alloc (Nat.le_refl _) _).drew
   have hcx : (wr.alloc (.cells #[.int .u32 (x : Nat)] 43)).drew.cell? ⟨wr.heap.size, 0, none⟩ = some (.int .u32 (x : Nat)) := by
    show (wr.alloc (.cells #[.int .u32 (x : Nat)] 43)).cell? ⟨wr.heap.size, 0, none⟩ = _
    rw [World.cell?_alloc_at _ 43 _ _ rfl]; rfl
   have hgw : g < wr.heap.size := Nat.lt_of_lt_of_le HH.out.lt HJ.out.2.2.size
   have hrw : gr < wr.heap.size := Nat.lt_of_lt_of_le HH.out.ltr HJ.out.2.2.size
   have hS2 := (⟨(hB2.cell (p := ⟨g, 1, none⟩) hgw).trans hSt.1, (hB2.cell (p := ⟨gr, n, none⟩) hrw).trans hSt.2.1, (hB2.cell (p := ⟨gr, n1, none⟩) hrw).trans hSt.2.2.1, (hB2.cell (p := ⟨gr, n2, none⟩) hrw).trans hSt.2.2.2.1, (hB2.cell (p := ⟨gr, n3, none⟩) hrw).trans hSt.2.2.2.2⟩ : (wr.alloc (.cells #[.int .u32 (x : Nat)] 43)).drew.cell? ⟨g, 1, none⟩ = some (.slice (some ⟨gr, 0, none⟩) m c) ∧ (wr.alloc (.cells #[.int .u32 (x : Nat)] 43)).drew.cell? ⟨gr, n, none⟩ = some (.int .u8 (b0 : Nat)) ∧ (wr.alloc (.cells #[.int .u32 (x : Nat)] 43)).drew.cell? ⟨gr, n1, none⟩ = some (.int .u8 (b1 : Nat)) ∧ (wr.alloc (.cells #[.int .u32 (x : Nat)] 43)).drew.cell? ⟨gr, n2, none⟩ = some (.int .u8 (b2 : Nat)) ∧ (wr.alloc (.cells #[.int .u32 (x : Nat)] 43)).drew.cell? ⟨gr, n3, none⟩ = some (.int .u8 (b3 : Nat)))
   refine hK.out _ _ hS2 (fun _ => ?_)
   clear hK Kx
   try simp only [Act.put, pU]
   have hsz2 : (wr.alloc (.cells #[.int .u32 (x : Nat)] 43)).drew.heap.size = wr.heap.size + 1 := by simp
   generalize (wr.alloc (.cells #[.int .u32 (x : Nat)] 43)).drew = wr3 at hB2 hcx hsz2 hS2 ⊢
   have HO3 : Hid (wr3.ownsRow w.heap.size 43 1 u3 k (wordsL K k)) := HJ.out.2.1.kept (row := none) ⟨hB2.os, hB2.tape, hB2.output, hB2.size, fun q hq _ => hB2.block q hq⟩ (by cases hv : u3.ownBlock <;> simp)
   have HBl : Hid (Below w.heap.size w wr3) := HJ.out.2.2.trans (hB2.mono HJ.out.2.2.size)
   refine wpAnyH_ready (rs := [43]) (by kernel_rfl) (by simp) ?_
   refine AllReadyH.cons rfl (fun Kx hK => ?_) AllReadyH.nil
   refine step_append1 rfl 57 rfl (.tmp 14) (.tmp 56) 94 rfl 43 i0 (.int .u32 0) 4 Tryz.underlying94 HI0.out.1 HI0.out.2.1 HI0.out.2.2.1 HI0.out.2.2.2 rfl w.heap.size k u3 (wordsL K k) rfl HO3.out wr.heap.size 1 (.int .u32 (x : Nat)) rfl hcx rfl (by unfold maxLen; omega) (by omega) HBl.out.size ?_
   intro g4 c4 w4 ho4 hg4 hw4 hk4
   have hne : ∀ b, b < w.heap.size → w4.heap[b]? = wr3.heap[b]? := fun b hb => hg4.block b (Nat.lt_of_lt_of_le hb HBl.out.size) (fun e => by have := (HO3.out.lt b e.symm).1; omega)
   have cg : ∀ o, w4.cell? ⟨g, o, none⟩ = wr3.cell? ⟨g, o, none⟩ := fun o => World.cell?_of_block (a := ⟨g, o, none⟩) (hne g HH.out.lt)
   have cr : ∀ o, w4.cell? ⟨gr, o, none⟩ = wr3.cell? ⟨gr, o, none⟩ := fun o => World.cell?_of_block (a := ⟨gr, o, none⟩) (hne gr HH.out.ltr)
   have hS4 : w4.cell? ⟨g, 1, none⟩ = some (.slice (some ⟨gr, 0, none⟩) m c) ∧ w4.cell? ⟨gr, n, none⟩ = some (.int .u8 (b0 : Nat)) ∧ w4.cell? ⟨gr, n1, none⟩ = some (.int .u8 (b1 : Nat)) ∧ w4.cell? ⟨gr, n2, none⟩ = some (.int .u8 (b2 : Nat)) ∧ w4.cell? ⟨gr, n3, none⟩ = some (.int .u8 (b3 : Nat)) := ⟨(cg _).trans hS2.1, (cr _).trans hS2.2.1, (cr _).trans hS2.2.2.1, (cr _).trans hS2.2.2.2.1, (cr _).trans hS2.2.2.2.2⟩
   refine hK.out _ _ hS4 (fun _ => ?_)
   clear hK Kx
   try simp only [Act.put, pU]
   have HN : Hid (w4.ownsRow w.heap.size 43 1 (.slice (some ⟨g4, 0, none⟩) (k + 1) c4) (k + 1) (wordsL K (k + 1)) ∧ Below w.heap.size w w4) := by
    refine ⟨by rw [wordsL_succ, ← HX.out]; exact ho4, HBl.out.grown hg4 HBl.out.size (fun q hq => (HO3.out.lt q hq).1)⟩
   refine tG 44 3 (.slice (some ⟨g4, 0, none⟩) (k + 1) c4) rfl rfl hS4 ?_
   simp only [pU]
   refine wpAnyH_done (by kernel_rfl) ?_ _
   refine NoPanic.normal ?_
   clear hS4 hS2 cg cr hne hk4 hw4 hg4 ho4 HBl HO3 hcx hB2 hsz2 hSt
   go_wp2
   refine ⟨⟨k + 1, n + 4, by omega, rfl, by have := HJ.out.1; omega, HN.out.1, HN.out.2⟩, by simp only [intOf]; omega⟩
  ·obtain rfl : k = 4 * (nk + 7) := by omega
   have hnm : m ≤ n := by have h1 := HJ.out.1; have h2 := HM.out; omega
   have hnmi : ((m : Nat) : Int) ≤ ((n : Nat) : Int) := by omega
   go_wp2
   go_ret
   exact ⟨_, rfl, HJ.out.2.1, HJ.out.2.2⟩
end Go.Proofs.YtgmfiljjogdccabGreatDoor
