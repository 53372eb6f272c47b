import Derived.Test.YtgmfiljjogdccaaDoorStr
namespace Go.Proofs.YtgmfiljjogdccaaDoor
open Go.RowKit Go.RwLone
set_option linter.unusedVariables false
theorem at_ok (t g n : Nat) (s0 : W4) (w : World) (h : StreamAt w t g s0 n) : Calls Tryd.prog 33 #[.pointer (some ⟨t, 0, none⟩)] w fun e w' => e = .returned (.int .u64 (n : Nat)) ∧ w' = w := by
  have c := h.pos
  clear h
  go_enter Tryd.func33, Tryd.ntmps33
  go_wp2
  go_ret
  exact ⟨rfl, rfl⟩
theorem StreamAt.touch {w w' : World} {t g n g' o m : Nat} {s0 : W4} (h : StreamAt w t g s0 n) (ht : Touch w w' g' o m) (hne : t ≠ g') : StreamAt w' t g s0 n :=
  ⟨(ht.far (p := ⟨t, 0, none⟩) h.here hne).trans h.key, fun j v hv => (ht.far (p := ⟨t, 1 + j, none⟩) h.here hne).trans (h.start j v hv), (ht.far (p := ⟨t, 17, none⟩) h.here hne).trans h.pos, fun j hj => by
    rw [ht.far (p := ⟨t, 0 + j, none⟩) h.here hne, ht.farFrozen (p := ⟨t, 0 + j, none⟩) h.here hne]; exact h.room j hj, Nat.lt_of_lt_of_le h.here ht.size, h.ok, h.most⟩
theorem StreamAt.move {w : World} {t g n : Nat} {s0 : W4} (h : StreamAt w t g s0 n) (m : Nat) (hm : m ≤ 1099511627776) : StreamAt (w.setCell ⟨t, 17, none⟩ (.int .u64 (m : Nat))) t g s0 m := by
  have ht : Touch w (w.setCell ⟨t, 17, none⟩ (.int .u64 (m : Nat))) t 17 1 := (Touch.refl w t 17 1).setCell 17 _ (by omega) (by omega)
  refine ⟨(ht.cell 0 (by omega)).trans h.key, fun j v hv => ?_, ?_, ht.there _ _ h.room, Nat.lt_of_lt_of_le h.here ht.size, h.ok, hm⟩
  · have h16 : j < 16 := (List.getElem?_eq_some_iff.1 hv).1
    exact (ht.cell (1 + j) (by omega)).trans (h.start j v hv)
  · have := (h.room 17 (by decide)).1
    exact World.cell?_setCell_same' _ _ _ (by simpa using this)
/-- Another cell of another block. -/
theorem KeyAt.far {w w' : World} {g nr t o m : Nat} {K : Nat → Nat} (h : KeyAt w g nr K) (ht : Touch w w' t o m) (hne : g ≠ t) : KeyAt w' g nr K := by
  have hg := h.ciph.here
  have e : ∀ j : Nat, w'.cell? ⟨g, j, none⟩ = w.cell? ⟨g, j, none⟩ := fun j => ht.far (p := ⟨g, j, none⟩) hg hne
  refine ⟨⟨(e _).trans h.ciph.rounds, fun i hi => (e _).trans (h.ciph.words i hi), h.ciph.small, ⟨fun b hb => (e _).trans (h.ciph.tab.s b hb), fun b hb => (e _).trans (h.ciph.tab.u b hb), fun b hb => (e _).trans (h.ciph.tab.m b hb), fun b hb => (e _).trans (h.ciph.tab.n b hb)⟩, Nat.lt_of_lt_of_le hg ht.size, h.ciph.some, h.ciph.most⟩, (e _).trans h.count, fun j hj => ?_⟩
  rw [e, ht.farFrozen (p := ⟨g, 0 + j, none⟩) hg hne]
  exact h.room j hj
/-- Two blocks touched, one behind the other. -/
structure Touch2 (w w' : World) (g t : Nat) : Prop where
  os : w'.os = w.os
  tape : w'.tape = w.tape
  output : w'.output = w.output
  size : w.heap.size ≤ w'.heap.size
  block : ∀ k, k < w.heap.size → k ≠ g → k ≠ t → w'.heap[k]? = w.heap[k]?
theorem Touch.left {w w' : World} {g o n : Nat} (h : Touch w w' g o n) (t : Nat) : Touch2 w w' g t := ⟨h.os, h.tape, h.output, h.size, fun k hk hg _ => h.block k hk hg⟩
theorem Touch.right {w w' : World} {t o n : Nat} (h : Touch w w' t o n) (g : Nat) : Touch2 w w' g t := ⟨h.os, h.tape, h.output, h.size, fun k hk _ ht => h.block k hk ht⟩
theorem Touch2.trans {a b c : World} {g t : Nat} (h : Touch2 a b g t) (k : Touch2 b c g t) : Touch2 a c g t :=
  ⟨k.os.trans h.os, k.tape.trans h.tape, k.output.trans h.output, Nat.le_trans h.size k.size, fun i hi hg ht => (k.block i (Nat.lt_of_lt_of_le hi h.size) hg ht).trans (h.block i hi hg ht)⟩
theorem Below.two {w w' : World} (h : Below w.heap.size w w') (g t : Nat) : Touch2 w w' g t := ⟨h.os, h.tape, h.output, h.size, fun k hk _ _ => h.block k hk⟩
theorem Touch2.toBelow {w w' : World} {g t B : Nat} (h : Touch2 w w' g t) (hg : B ≤ g) (ht : B ≤ t) (hB : B ≤ w.heap.size) : Below B w w' := ⟨h.os, h.tape, h.output, h.size, fun k hk => h.block k (by omega) (by omega) (by omega)⟩
/-- The key is let go, whatever else was written. -/
theorem unlock3 {w3 : World} {g nr : Nat} {K : Nat → Nat} (hc : Ciph w3 g 6 nr K) (hcnt : w3.cell? ⟨g, 4, none⟩ = some (.int .i32 1)) (hroom : w3.there g 0 1091) :
    CallsD Tryd.prog 40 #[.pointer (some ⟨g, 0, none⟩)] .returning w3 fun e u' w' => u' = .returning ∧ e = .returned (.tuple #[]) ∧ KeyAt w' g nr K ∧ Touch w3 w' g 4 1 := by
  obtain ⟨x0, c0⟩ := cell_of_there hroom 0 (by decide)
  obtain ⟨x2, c2⟩ := cell_of_there hroom 2 (by decide)
  have hz := (hroom 4 (by decide)).2
  refine (runlock_deferred rwRLib g 0 1 x0 x2 .returning w3 c0 c2 hcnt hz (by decide +kernel)).mono ?_
  rintro e u' w' ⟨rfl, rfl, hw⟩
  rw [show wrap32 (1 + -1) = 0 by decide +kernel] at hw
  have hw' : w' = w3.setCells g 4 [.int .i32 0] := hw
  have ht' : Touch w3 w' g 4 1 := by rw [hw']; exact (Touch.refl _ g 4 1).setCells 4 _ (by omega) (by simp)
  have hc' : w'.cell? ⟨g, 4, none⟩ = some (.int .i32 0) := by
    rw [hw]
    exact World.cell?_setCell_same' _ _ _ (by rw [show (0 + 4) = 4 from rfl, hcnt]; rfl)
  refine ⟨rfl, rfl, ⟨⟨(ht'.cell 6 (by omega)).trans hc.rounds, fun i hi => (ht'.cell (6 + 1 + i) (by omega)).trans (hc.words i hi), hc.small, ⟨fun b hb => (ht'.cell _ (by omega)).trans (hc.tab.s b hb), fun b hb => (ht'.cell _ (by omega)).trans (hc.tab.u b hb), fun b hb => (ht'.cell _ (by omega)).trans (hc.tab.m b hb), fun b hb => (ht'.cell _ (by omega)).trans (hc.tab.n b hb)⟩, Nat.lt_of_lt_of_le hc.here ht'.size, hc.some, hc.most⟩, hc', ht'.there _ _ hroom⟩, ht'⟩
theorem Ciph.far {w w' : World} {g q nr t o m : Nat} {K : Nat → Nat} (h : Ciph w g q nr K) (ht : Touch w w' t o m) (hne : g ≠ t) : Ciph w' g q nr K := by
  have e : ∀ j : Nat, w'.cell? ⟨g, j, none⟩ = w.cell? ⟨g, j, none⟩ := fun j => ht.far (p := ⟨g, j, none⟩) h.here hne
  exact ⟨(e _).trans h.rounds, fun i hi => (e _).trans (h.words i hi), h.small, ⟨fun b hb => (e _).trans (h.tab.s b hb), fun b hb => (e _).trans (h.tab.u b hb), fun b hb => (e _).trans (h.tab.m b hb), fun b hb => (e _).trans (h.tab.n b hb)⟩, Nat.lt_of_lt_of_le h.here ht.size, h.some, h.most⟩
theorem there_far {w w' : World} {g a n t o m : Nat} (h : w.there g a n) (hg : g < w.heap.size) (ht : Touch w w' t o m) (hne : g ≠ t) : w'.there g a n := fun j hj => by
  rw [ht.far (p := ⟨g, a + j, none⟩) hg hne, ht.farFrozen (p := ⟨g, a + j, none⟩) hg hne]; exact h j hj
set_option maxHeartbeats 1600000 in
set_option maxRecDepth 100000 in
theorem skip_ok (t g n m nr : Nat) (K : Nat → Nat) (s0 : W4) (w : World) (hk : KeyAt w g nr K) (hs : StreamAt w t g s0 n) (hne : t ≠ g) (hm : n + m ≤ 1099511627776) :
    Calls Tryd.prog 32 #[.pointer (some ⟨t, 0, none⟩), .int .u64 (m : Nat)] w fun e w' => e = .returned (.int .i64 0) ∧ KeyAt w' g nr K ∧ StreamAt w' t g s0 (n + m) ∧ Touch2 w w' g t := by
  have HK : Hid (KeyAt w g nr K) := hk
  have HS : Hid (StreamAt w t g s0 n) := hs
  have HNE : Hid (t ≠ g) := hne
  have HH : Hid (Calls Tryd.prog 39 #[.pointer (some ⟨g, 0, none⟩)] w fun e w' => e = .returned (.int .i64 0) ∧ w' = w.setCell ⟨g, 4, none⟩ (.int .i32 1)) := hold_ok g nr K w hk
  have ck := hs.key
  have hn40 := hs.most
  clear hk hs hne
  go_enter_defers Tryd.func32, Tryd.ntmps32
  go_wp2_with (first | (go_at_call 39; refine HH.out.mono ?_))
  rintro e1 w1 ⟨rfl, hw1⟩
  have H1 : Hid (Ciph w1 g 6 nr K ∧ Touch w w1 g 4 1 ∧ w1.cell? ⟨g, 4, none⟩ = some (.int .i32 1)) := held HK.out hw1
  have HS1 : Hid (StreamAt w1 t g s0 n) := HS.out.touch H1.out.2.1 HNE.out
  clear hw1 HH ck
  have ck : w1.cell? ⟨t, 0, none⟩ = some (.pointer (some ⟨g, 0, none⟩)) := HS1.out.key
  have cp : w1.cell? ⟨t, 17, none⟩ = some (.int .u64 (n : Nat)) := HS1.out.pos
  have cz : w1.frozen? ⟨t, 17, none⟩ = false := by have := (HS1.out.room 17 (by decide)).2; simpa using this
  have KL : Hid (Calls Tryd.prog 47 #[.pointer (some ⟨t, 0, none⟩)] w1 fun e w' => e = .returned (.int .u64 (1099511627776 - n : Nat)) ∧ w' = w1) := left_ok t g n s0 w1 HS1.out
  obtain ⟨lf, HLF⟩ : ∃ x, Hid (x = 1099511627776 - n) := ⟨_, rfl⟩
  rw [← HLF.out] at KL
  have hle : ((m : Nat) : Int) ≤ (lf : Nat) := by have := HLF.out; omega
  go_wp2_with (first | (go_at_call 47; refine KL.out.mono ?_; rintro e2 w2 ⟨rfl, hw2⟩; obtain rfl := hw2.symm))
  rw [show ((n : Int) + (m : Int)) = ((n + m : Nat) : Int) by omega]
  have HT3 : Hid (Touch w1 (w1.setCell ⟨t, 17, none⟩ (.int .u64 (n + m : Nat))) t 17 1) := (Touch.refl w1 t 17 1).setCell 17 _ (by omega) (by omega)
  have HS3 : Hid (StreamAt (w1.setCell ⟨t, 17, none⟩ (.int .u64 (n + m : Nat))) t g s0 (n + m)) := HS1.out.move (n + m) hm
  generalize w1.setCell ⟨t, 17, none⟩ (.int .u64 (n + m : Nat)) = w3 at HT3 HS3 ⊢
  have hgt : g ≠ t := fun e => HNE.out e.symm
  have hg1 := H1.out.1.here
  refine leaves_cons (f := 40) (args := #[.pointer (some ⟨g, 0, none⟩)]) (by simp) (by simp [go_sem]) ?_
  refine (unlock3 (H1.out.1.far HT3.out hgt) ((HT3.out.far (p := ⟨g, 4, none⟩) hg1 hgt).trans H1.out.2.2) (there_far (H1.out.2.1.there _ _ HK.out.room) hg1 HT3.out hgt)).mono ?_
  rintro e5 u5 w5 ⟨rfl, rfl, hk5, ht5⟩
  exact ⟨_, results_tmp rfl _ _ _, rfl, hk5, HS3.out.touch ht5 HNE.out, ((H1.out.2.1.left t).trans (HT3.out.right g)).trans (ht5.left t)⟩
end Go.Proofs.YtgmfiljjogdccaaDoor
