import Derived.Test.YtinmhgackihakaaDoorPart04
import Derived.Deep.RegionHeld3
import Derived.Deep.QuietTactic
import Derived.BigQuiet
import Derived.BigRegion
import Derived.Test.YtinmhgackihakaaDoorProg
import Derived.WalkKit
import Derived.Deep.Draws
import Derived.Laws.BitsAllLaws
import Derived.Laws.AppendOwnNone
import Derived.Deep.DeepMust
namespace Go.Proofs.YtinmhgackihakaaDoor
open Go.RowKit
set_option linter.unusedVariables false

/-- The eight words of a round. -/
structure Eight where
  (a b c d e f g k : Int)
def Eight.list (s : Eight) : List Int := [s.a, s.b, s.c, s.d, s.e, s.f, s.g, s.k]
def Eight.cells (s : Eight) : List Value := s.list.map (Value.int .u64)
def Eight.map (f : Int → Int) (s : Eight) : Eight := ⟨f s.a, f s.b, f s.c, f s.d, f s.e, f s.f, f s.g, f s.k⟩
def Eight.zip (f : Int → Int → Int) (s t : Eight) : Eight := ⟨f s.a t.a, f s.b t.b, f s.c t.c, f s.d t.d, f s.e t.e, f s.f t.f, f s.g t.g, f s.k t.k⟩

theorem val_eqD {k : IntKind} {x y : Int} (h : x = y) : Value.int k x = Value.int k y := by rw [h]
theorem step_cells {w : World} {g o q : Nat} {A B : List Value} (h : w.rangeAt g o (A.take q ++ B.drop q)) (ht : w.there g o 8) (hq : q < 8) (v' : Value) (hv : A[q]? = some v') (hA : A.length = 8 := by rfl) (hB : B.length = 8 := by rfl) :
    (w.setCell ⟨g, o + q, none⟩ v').rangeAt g o (A.take (q + 1) ++ B.drop (q + 1)) := by
  intro j x hx
  by_cases hj : j = q
  · subst hj
    have hx' : (A.take (j + 1) ++ B.drop (j + 1))[j]? = A[j]? := by
      rw [List.getElem?_append_left (by simp; omega)]
      simp
    rw [hx', hv] at hx
    obtain rfl := Option.some.inj hx
    exact World.cell?_setCell_same' _ _ _ (ht j hq).1
  · have hx' : (A.take q ++ B.drop q)[j]? = some x := by
      by_cases hjq : j < q
      · rw [List.getElem?_append_left (by simp; omega)] at hx ⊢
        simp only [List.getElem?_take] at hx ⊢
        rw [if_pos (by omega)] at hx ⊢
        exact hx
      · rw [List.getElem?_append_right (by simp; omega)] at hx ⊢
        simp only [List.length_take, List.getElem?_drop] at hx ⊢
        rw [show min (q + 1) A.length = q + 1 by omega] at hx
        rw [show min q A.length = q by omega]
        rw [show q + 1 + (j - (q + 1)) = j by omega] at hx
        rw [show q + (j - q) = j by omega]
        exact hx
    have h0 := h j x hx'
    have : (w.setCells g (o + q) [v']).cell? ⟨g, o + j, none⟩ = w.cell? ⟨g, o + j, none⟩ := World.cell?_setCells_out g [v'] (o + q) w ⟨g, o + j, none⟩ (fun _ _ => by
      show o + j < o + q ∨ o + q + 1 ≤ o + j
      omega)
    exact this.trans h0

def t1_32 (s : Eight) (kc wv : Int) : Int := (s.k + (bits .xor .u32 (bits .xor .u32 (rotl32 s.e 26) (rotl32 s.e 21)) (rotl32 s.e 7)) + (bits .xor .u32 (bits .and .u32 s.e s.f) (bits .and .u32 (bits .xor .u32 (if IntKind.u32.signed = true then -1 else IntKind.u32.max) s.e) s.g)) + kc / 4294967296 + wv) % 4294967296
def t2_32 (s : Eight) : Int := ((bits .xor .u32 (bits .xor .u32 (rotl32 s.a 30) (rotl32 s.a 19)) (rotl32 s.a 10)) + (bits .xor .u32 (bits .xor .u32 (bits .and .u32 s.a s.b) (bits .and .u32 s.a s.c)) (bits .and .u32 s.b s.c))) % 4294967296
def round32 (s : Eight) (kc wv : Int) : Eight := ⟨(t1_32 s kc wv + t2_32 s) % 4294967296, s.a, s.b, s.c, (s.d + t1_32 s kc wv) % 4294967296, s.e, s.f, s.g⟩
def rounds32 (C W : Nat → Int) : Nat → Eight → Eight
  | 0, s => s
  | t + 1, s => round32 (rounds32 C W t s) (C t) (W t)

set_option maxHeartbeats 3200000 in
set_option maxRecDepth 100000 in
theorem rounds32_walk (g o wb : Nat) (h0 h1 h2 h3 h4 h5 h6 h7 : Int) (W C : Nat → Int) (w : World)
    (hr : w.rangeAt g o (Eight.cells ⟨h0, h1, h2, h3, h4, h5, h6, h7⟩)) (ht : w.there g o 8)
    (hW : ∀ t, t < 64 → w.cell? ⟨wb, t, none⟩ = some (.int .u32 (W t)))
    (hC : ∀ t, t < 64 → w.cell? ⟨1, t, none⟩ = some (.int .u64 (C t))) :
    Calls Tryd.prog 94 #[.pointer (some ⟨g, o, none⟩), .pointer (some ⟨wb, 0, none⟩)] w fun e w' => e = .returned (.tuple #[]) ∧ Touch w w' g o 8 ∧ w'.rangeAt g o (Eight.cells (Eight.zip (fun h x => (h + x) % 4294967296) ⟨h0, h1, h2, h3, h4, h5, h6, h7⟩ (rounds32 C W 64 ⟨h0 % 4294967296, h1 % 4294967296, h2 % 4294967296, h3 % 4294967296, h4 % 4294967296, h5 % 4294967296, h6 % 4294967296, h7 % 4294967296⟩))) := by
  have HW : Hid (∀ t, t < 64 → w.cell? ⟨wb, t, none⟩ = some (.int .u32 (W t))) := hW
  have HC : Hid (∀ t, t < 64 → w.cell? ⟨1, t, none⟩ = some (.int .u64 (C t))) := hC
  have HR : Hid (w.rangeAt g o (Eight.cells ⟨h0, h1, h2, h3, h4, h5, h6, h7⟩)) := hr
  have HT : Hid (w.there g o 8) := ht
  have c0 : w.cell? ⟨g, o, none⟩ = some (.int .u64 h0) := hr 0 _ rfl
  have c1 : w.cell? ⟨g, o + 1, none⟩ = some (.int .u64 h1) := hr 1 _ rfl
  have c2 : w.cell? ⟨g, o + 2, none⟩ = some (.int .u64 h2) := hr 2 _ rfl
  have c3 : w.cell? ⟨g, o + 3, none⟩ = some (.int .u64 h3) := hr 3 _ rfl
  have c4 : w.cell? ⟨g, o + 4, none⟩ = some (.int .u64 h4) := hr 4 _ rfl
  have c5 : w.cell? ⟨g, o + 5, none⟩ = some (.int .u64 h5) := hr 5 _ rfl
  have c6 : w.cell? ⟨g, o + 6, none⟩ = some (.int .u64 h6) := hr 6 _ rfl
  have c7 : w.cell? ⟨g, o + 7, none⟩ = some (.int .u64 h7) := hr 7 _ rfl
  clear hW hC hr ht
  go_enter Tryd.func94, Tryd.ntmps94
  go_wp2
  go_quiet (fail)
  go_wp2
  go_quiet (fail)
  clear c0 c1 c2 c3 c4 c5 c6 c7
  go_wp2
  go_loopw [4, 5, 6, 7, 8, 9, 10, 11, 59] (fun va vb vc vd ve vf vg vk i wr => ∃ t : Nat, ∃ s : Eight, t ≤ 64 ∧ i = .int .i64 t ∧ va = .int .u32 s.a ∧ vb = .int .u32 s.b ∧ vc = .int .u32 s.c ∧ vd = .int .u32 s.d ∧ ve = .int .u32 s.e ∧ vf = .int .u32 s.f ∧ vg = .int .u32 s.g ∧ vk = .int .u32 s.k ∧ Hid (s = rounds32 C W t ⟨h0 % 4294967296, h1 % 4294967296, h2 % 4294967296, h3 % 4294967296, h4 % 4294967296, h5 % 4294967296, h6 % 4294967296, h7 % 4294967296⟩) ∧ Hid (Sm w wr)) (fun _ _ _ _ _ _ _ _ i _ => 64 - (intOf i).toNat)
  case atStart => exact ⟨0, ⟨h0 % 4294967296, h1 % 4294967296, h2 % 4294967296, h3 % 4294967296, h4 % 4294967296, h5 % 4294967296, h6 % 4294967296, h7 % 4294967296⟩, by omega, rfl, rfl, rfl, rfl, rfl, rfl, rfl, rfl, rfl, rfl, ((Sm.refl w).drewN _).drewN _⟩
  case round =>
    obtain ⟨t, ⟨a, b, c, d, e, f, g1, k⟩, ht, rfl, rfl, rfl, rfl, rfl, rfl, rfl, rfl, rfl, HS, HM⟩ := hrel
    by_cases hlt : t < 64
    · have hw : wr.cell? ⟨wb, t, none⟩ = some (.int .u32 (W t)) := by rw [HM.out.cell]; exact HW.out t hlt
      have hc : wr.cell? ⟨1, t, none⟩ = some (.int .u64 (C t)) := by rw [HM.out.cell]; exact HC.out t hlt
      go_wp2_with (first | (go_at_call 93; (first | refine (rot32_of 6 (by decide +kernel)).mono ?_ | refine (rot32_of 11 (by decide +kernel)).mono ?_ | refine (rot32_of 25 (by decide +kernel)).mono ?_ | refine (rot32_of 2 (by decide +kernel)).mono ?_ | refine (rot32_of 13 (by decide +kernel)).mono ?_ | refine (rot32_of 22 (by decide +kernel)).mono ?_); (rintro e1 w1 ⟨rfl, hw1⟩; obtain rfl := hw1.symm)))
      go_quiet (fail)
      go_wp2_with (first | (go_at_call 93; (first | refine (rot32_of 6 (by decide +kernel)).mono ?_ | refine (rot32_of 11 (by decide +kernel)).mono ?_ | refine (rot32_of 25 (by decide +kernel)).mono ?_ | refine (rot32_of 2 (by decide +kernel)).mono ?_ | refine (rot32_of 13 (by decide +kernel)).mono ?_ | refine (rot32_of 22 (by decide +kernel)).mono ?_); (rintro e1 w1 ⟨rfl, hw1⟩; obtain rfl := hw1.symm)))
      go_roundw
      case rel =>
        refine ⟨t + 1, round32 ⟨a, b, c, d, e, f, g1, k⟩ (C t) (W t), by omega, by go_num, rfl, rfl, rfl, rfl, rfl, rfl, rfl, rfl, ?_, HM.out.drewN _⟩
        have := HS.out
        rw [this]
        exact rfl
      case measure => simp [intOf]; omega
    · obtain rfl : t = 64 := by omega
      clear hlt ht HW HC
      have HE : Hid (Eight.zip (fun h x => (h + x) % 4294967296) ⟨h0, h1, h2, h3, h4, h5, h6, h7⟩ (rounds32 C W 64 ⟨h0 % 4294967296, h1 % 4294967296, h2 % 4294967296, h3 % 4294967296, h4 % 4294967296, h5 % 4294967296, h6 % 4294967296, h7 % 4294967296⟩) = ⟨((h0 + a) % 4294967296), ((h1 + b) % 4294967296), ((h2 + c) % 4294967296), ((h3 + d) % 4294967296), ((h4 + e) % 4294967296), ((h5 + f) % 4294967296), ((h6 + g1) % 4294967296), ((h7 + k) % 4294967296)⟩) := by
        rw [← HS.out]
        exact rfl
      clear HS
      go_wp2
      go_loopw [137] (fun i wr => ∃ q : Nat, q ≤ 8 ∧ i = .int .i64 q ∧ Hid (Touch w wr g o 8) ∧ Hid (wr.rangeAt g o ((Eight.cells ⟨((h0 + a) % 4294967296), ((h1 + b) % 4294967296), ((h2 + c) % 4294967296), ((h3 + d) % 4294967296), ((h4 + e) % 4294967296), ((h5 + f) % 4294967296), ((h6 + g1) % 4294967296), ((h7 + k) % 4294967296)⟩).take q ++ (Eight.cells ⟨h0, h1, h2, h3, h4, h5, h6, h7⟩).drop q))) (fun i _ => 8 - (intOf i).toNat)
      case atStart => exact ⟨0, by omega, rfl, HM.out.touch _ _ _, fun j v hv => by rw [HM.out.cell]; exact HR.out j v hv⟩
      case round =>
        obtain ⟨q, hq, rfl, HT1, HR1⟩ := hrel
        have hq9 : q = 0 ∨ q = 1 ∨ q = 2 ∨ q = 3 ∨ q = 4 ∨ q = 5 ∨ q = 6 ∨ q = 7 ∨ q = 8 := by omega
        clear hq HM
        rcases hq9 with rfl | rfl | rfl | rfl | rfl | rfl | rfl | rfl | rfl
        · have hcell : wr.cell? ⟨g, o, none⟩ = some (.int .u64 h0) := HR1.out 0 _ rfl
          have hfr : wr.frozen? ⟨g, o, none⟩ = false := ((HT1.out.there _ _ HT.out) 0 (by omega)).2
          have hrun : Sem.run Tryd.prog (Instr.index 151 (.agg #[.int .u32 a, .int .u32 b, .int .u32 c, .int .u32 d, .int .u32 e, .int .u32 f, .int .u32 g1, .int .u32 k]) (.int .i64 0)) wr = .ok (.int .u32 a) wr := by kernel_rfl
          go_wp2
          go_region
          go_wp2
          go_roundw
          case rel =>
            refine ⟨1, by omega, rfl, ?_, ?_⟩
            · exact (HT1.out.setCell (o) _ (by omega) (by omega)).drew
            · exact (World.rangeAt_drew _ _ _ _).2 (step_cells (q := 0) HR1.out (HT1.out.there _ _ HT.out) (by omega) _ rfl)
          case measure => simp [intOf]
        · have hcell : wr.cell? ⟨g, o + 1, none⟩ = some (.int .u64 h1) := HR1.out 1 _ rfl
          have hfr : wr.frozen? ⟨g, o + 1, none⟩ = false := ((HT1.out.there _ _ HT.out) 1 (by omega)).2
          have hrun : Sem.run Tryd.prog (Instr.index 151 (.agg #[.int .u32 a, .int .u32 b, .int .u32 c, .int .u32 d, .int .u32 e, .int .u32 f, .int .u32 g1, .int .u32 k]) (.int .i64 1)) wr = .ok (.int .u32 b) wr := by kernel_rfl
          go_wp2
          go_region
          go_wp2
          go_roundw
          case rel =>
            refine ⟨2, by omega, rfl, ?_, ?_⟩
            · exact (HT1.out.setCell (o + 1) _ (by omega) (by omega)).drew
            · exact (World.rangeAt_drew _ _ _ _).2 (step_cells (q := 1) HR1.out (HT1.out.there _ _ HT.out) (by omega) _ rfl)
          case measure => simp [intOf]
        · have hcell : wr.cell? ⟨g, o + 2, none⟩ = some (.int .u64 h2) := HR1.out 2 _ rfl
          have hfr : wr.frozen? ⟨g, o + 2, none⟩ = false := ((HT1.out.there _ _ HT.out) 2 (by omega)).2
          have hrun : Sem.run Tryd.prog (Instr.index 151 (.agg #[.int .u32 a, .int .u32 b, .int .u32 c, .int .u32 d, .int .u32 e, .int .u32 f, .int .u32 g1, .int .u32 k]) (.int .i64 2)) wr = .ok (.int .u32 c) wr := by kernel_rfl
          go_wp2
          go_region
          go_wp2
          go_roundw
          case rel =>
            refine ⟨3, by omega, rfl, ?_, ?_⟩
            · exact (HT1.out.setCell (o + 2) _ (by omega) (by omega)).drew
            · exact (World.rangeAt_drew _ _ _ _).2 (step_cells (q := 2) HR1.out (HT1.out.there _ _ HT.out) (by omega) _ rfl)
          case measure => simp [intOf]
        · have hcell : wr.cell? ⟨g, o + 3, none⟩ = some (.int .u64 h3) := HR1.out 3 _ rfl
          have hfr : wr.frozen? ⟨g, o + 3, none⟩ = false := ((HT1.out.there _ _ HT.out) 3 (by omega)).2
          have hrun : Sem.run Tryd.prog (Instr.index 151 (.agg #[.int .u32 a, .int .u32 b, .int .u32 c, .int .u32 d, .int .u32 e, .int .u32 f, .int .u32 g1, .int .u32 k]) (.int .i64 3)) wr = .ok (.int .u32 d) wr := by kernel_rfl
          go_wp2
          go_region
          go_wp2
          go_roundw
          case rel =>
            refine ⟨4, by omega, rfl, ?_, ?_⟩
            · exact (HT1.out.setCell (o + 3) _ (by omega) (by omega)).drew
            · exact (World.rangeAt_drew _ _ _ _).2 (step_cells (q := 3) HR1.out (HT1.out.there _ _ HT.out) (by omega) _ rfl)
          case measure => simp [intOf]
        · have hcell : wr.cell? ⟨g, o + 4, none⟩ = some (.int .u64 h4) := HR1.out 4 _ rfl
          have hfr : wr.frozen? ⟨g, o + 4, none⟩ = false := ((HT1.out.there _ _ HT.out) 4 (by omega)).2
          have hrun : Sem.run Tryd.prog (Instr.index 151 (.agg #[.int .u32 a, .int .u32 b, .int .u32 c, .int .u32 d, .int .u32 e, .int .u32 f, .int .u32 g1, .int .u32 k]) (.int .i64 4)) wr = .ok (.int .u32 e) wr := by kernel_rfl
          go_wp2
          go_region
          go_wp2
          go_roundw
          case rel =>
            refine ⟨5, by omega, rfl, ?_, ?_⟩
            · exact (HT1.out.setCell (o + 4) _ (by omega) (by omega)).drew
            · exact (World.rangeAt_drew _ _ _ _).2 (step_cells (q := 4) HR1.out (HT1.out.there _ _ HT.out) (by omega) _ rfl)
          case measure => simp [intOf]
        · have hcell : wr.cell? ⟨g, o + 5, none⟩ = some (.int .u64 h5) := HR1.out 5 _ rfl
          have hfr : wr.frozen? ⟨g, o + 5, none⟩ = false := ((HT1.out.there _ _ HT.out) 5 (by omega)).2
          have hrun : Sem.run Tryd.prog (Instr.index 151 (.agg #[.int .u32 a, .int .u32 b, .int .u32 c, .int .u32 d, .int .u32 e, .int .u32 f, .int .u32 g1, .int .u32 k]) (.int .i64 5)) wr = .ok (.int .u32 f) wr := by kernel_rfl
          go_wp2
          go_region
          go_wp2
          go_roundw
          case rel =>
            refine ⟨6, by omega, rfl, ?_, ?_⟩
            · exact (HT1.out.setCell (o + 5) _ (by omega) (by omega)).drew
            · exact (World.rangeAt_drew _ _ _ _).2 (step_cells (q := 5) HR1.out (HT1.out.there _ _ HT.out) (by omega) _ rfl)
          case measure => simp [intOf]
        · have hcell : wr.cell? ⟨g, o + 6, none⟩ = some (.int .u64 h6) := HR1.out 6 _ rfl
          have hfr : wr.frozen? ⟨g, o + 6, none⟩ = false := ((HT1.out.there _ _ HT.out) 6 (by omega)).2
          have hrun : Sem.run Tryd.prog (Instr.index 151 (.agg #[.int .u32 a, .int .u32 b, .int .u32 c, .int .u32 d, .int .u32 e, .int .u32 f, .int .u32 g1, .int .u32 k]) (.int .i64 6)) wr = .ok (.int .u32 g1) wr := by kernel_rfl
          go_wp2
          go_region
          go_wp2
          go_roundw
          case rel =>
            refine ⟨7, by omega, rfl, ?_, ?_⟩
            · exact (HT1.out.setCell (o + 6) _ (by omega) (by omega)).drew
            · exact (World.rangeAt_drew _ _ _ _).2 (step_cells (q := 6) HR1.out (HT1.out.there _ _ HT.out) (by omega) _ rfl)
          case measure => simp [intOf]
        · have hcell : wr.cell? ⟨g, o + 7, none⟩ = some (.int .u64 h7) := HR1.out 7 _ rfl
          have hfr : wr.frozen? ⟨g, o + 7, none⟩ = false := ((HT1.out.there _ _ HT.out) 7 (by omega)).2
          have hrun : Sem.run Tryd.prog (Instr.index 151 (.agg #[.int .u32 a, .int .u32 b, .int .u32 c, .int .u32 d, .int .u32 e, .int .u32 f, .int .u32 g1, .int .u32 k]) (.int .i64 7)) wr = .ok (.int .u32 k) wr := by kernel_rfl
          go_wp2
          go_region
          go_wp2
          go_roundw
          case rel =>
            refine ⟨8, by omega, rfl, ?_, ?_⟩
            · exact (HT1.out.setCell (o + 7) _ (by omega) (by omega)).drew
            · exact (World.rangeAt_drew _ _ _ _).2 (step_cells (q := 7) HR1.out (HT1.out.there _ _ HT.out) (by omega) _ rfl)
          case measure => simp [intOf]
        · go_wp2
          go_end0
          refine ⟨rfl, HT1.out, ?_⟩
          rw [HE.out]
          exact HR1.out
end Go.Proofs.YtinmhgackihakaaDoor
namespace Go.Proofs.YtinmhgackihakaaDoor
open Go.RowKit
set_option linter.unusedVariables false

theorem Touch.setNew {a b : World} {g o n : Nat} (h : Touch a b g o n) (k j : Nat) (u : Value) (hk : a.heap.size ≤ k) (hg : g < a.heap.size) : Touch a (b.setCell ⟨k, j, none⟩ u) g o n := by
  have hs := h.size
  have hb : ∀ i, i < a.heap.size → (b.setCell ⟨k, j, none⟩ u).heap[i]? = b.heap[i]? := fun i hi => Below.heap_setCell b ⟨k, j, none⟩ u i (by show i ≠ k; omega)
  refine ⟨h.os, h.tape, h.output, by simp [World.setCell]; exact hs, fun i hi hne => (hb i hi).trans (h.block i hi hne), fun i hi => ?_, fun o' n' ht i hi => ?_⟩
  · rw [World.cell?_of_block (w := b) (hb g hg)]
    exact h.cell i hi
  · rw [World.cell?_of_block (w := b) (a := ⟨g, o' + i, none⟩) (hb g hg), World.frozen?_of_block (w := b) (a := ⟨g, o' + i, none⟩) (hb g hg)]
    exact h.there o' n' ht i hi
theorem lt_of_cell {w : World} {a : Addr} {v : Value} (h : w.cell? a = some v) : a.block < w.heap.size := by
  by_cases hb : a.block < w.heap.size
  · exact hb
  · simp [World.cell?, Array.getElem?_eq_none (Nat.le_of_not_lt hb)] at h
/-- Cells outside what is touched read as they did. -/
theorem Touch.outside {w v : World} {g o n : Nat} (h : Touch w v g o n) {b p : Nat} {x : Value} (hx : w.cell? ⟨b, p, none⟩ = some x) (hs : b ≠ g ∨ p < o ∨ o + n ≤ p) : v.cell? ⟨b, p, none⟩ = some x := by
  by_cases hb : b = g
  · subst hb
    rw [h.cell p (by omega)]
    exact hx
  · rw [h.far (p := ⟨b, p, none⟩) (lt_of_cell hx) hb]
    exact hx
theorem Touch.thereFar {w v : World} {g o n : Nat} (h : Touch w v g o n) {b o' n' : Nat} (ht : w.there b o' n') (hb : b < w.heap.size) (hne : b ≠ g) : v.there b o' n' := fun j hj => by
  rw [h.far (p := ⟨b, o' + j, none⟩) hb hne, h.farFrozen (p := ⟨b, o' + j, none⟩) hb hne]
  exact ht j hj
/-- A row of cells that is filled from its beginning. -/
theorem fill_step {w : World} {k t N : Nat} {F : Nat → Value} (h : ∀ j, j < t → w.cell? ⟨k, j, none⟩ = some (F j)) (ht : w.there k 0 N) (htN : t < N) (u : Value) (hu : u = F t) :
    (∀ j, j < t + 1 → (w.setCell ⟨k, t, none⟩ u).drew.cell? ⟨k, j, none⟩ = some (F j)) ∧ (w.setCell ⟨k, t, none⟩ u).drew.there k 0 N := by
  subst hu
  constructor
  · intro j hj
    show (w.setCell ⟨k, t, none⟩ (F t)).cell? ⟨k, j, none⟩ = some (F j)
    by_cases e : j = t
    · subst e
      have := (ht j htN).1
      rw [Nat.zero_add] at this
      exact World.cell?_setCell_same' _ _ _ this
    · have := World.cell?_setCells_out k [F t] t w ⟨k, j, none⟩ (fun _ _ => by show j < t ∨ t + 1 ≤ j; omega)
      exact this.trans (h j (by omega))
  · exact World.there_setCells ht k t [F t]
theorem range_far {w : World} {g o k t : Nat} {cs : List Value} (h : w.rangeAt g o cs) (u : Value) (hne : g ≠ k) : (w.setCell ⟨k, t, none⟩ u).drew.rangeAt g o cs :=
  World.rangeAt_setCells_apart h k t [u] (.inl hne)
theorem slice_eq {a : Option Addr} {b q n m c d : Nat} (h1 : a = some ⟨b, q, none⟩) (h2 : n = m) (h3 : c = d) : Value.slice a n c = .slice (some ⟨b, q, none⟩) m d := by rw [h1, h2, h3]
def lenOf : Value → Nat
  | .slice _ l _ => l
  | _ => 0

/-- A word of a block of 64 bytes; the words that follow. -/
def word32 (B : Nat → Int) (t : Nat) : Int := bits .or .u32 (bits .or .u32 (bits .or .u32 (B (4 * t) % 4294967296 * 16777216 % 4294967296) (B (4 * t + 1) % 4294967296 * 65536 % 4294967296)) (B (4 * t + 2) % 4294967296 * 256 % 4294967296)) (B (4 * t + 3) % 4294967296)
def lo1_32 (x : Int) : Int := bits .xor .u32 (bits .xor .u32 (rotl32 x 15) (rotl32 x 13)) (x / 1024)
def lo0_32 (x : Int) : Int := bits .xor .u32 (bits .xor .u32 (rotl32 x 25) (rotl32 x 14)) (x / 8)
def sched32 (B : Nat → Int) (t : Nat) : Int :=
  if t < 16 then word32 B t else (lo1_32 (sched32 B (t - 2)) + sched32 B (t - 7) + lo0_32 (sched32 B (t - 15)) + sched32 B (t - 16)) % 4294967296
termination_by t
decreasing_by all_goals omega
def block32 (C B : Nat → Int) (s : Eight) : Eight := Eight.zip (fun h x => (h + x) % 4294967296) s (rounds32 C (sched32 B) 64 ⟨s.a % 4294967296, s.b % 4294967296, s.c % 4294967296, s.d % 4294967296, s.e % 4294967296, s.f % 4294967296, s.g % 4294967296, s.k % 4294967296⟩)
def takes32 (C B : Nat → Int) (s : Eight) : Nat → Eight
  | 0 => s
  | i + 1 => block32 C (fun j => B (64 * i + j)) (takes32 C B s i)

set_option maxHeartbeats 6400000 in
set_option maxRecDepth 100000 in
theorem narrow_walk (g o b p n cap : Nat) (s : Eight) (C B : Nat → Int) (w : World) (hg : g < w.heap.size) (hcap : n ≤ cap) (hcm : cap ≤ maxLen)
    (hr : w.rangeAt g o s.cells) (ht : w.there g o 8)
    (hB : ∀ i, i < n → w.cell? ⟨b, p + i, none⟩ = some (.int .u8 (B i)))
    (hsep : b ≠ g ∨ p + n ≤ o ∨ o + 8 ≤ p)
    (hC : ∀ t, t < 64 → w.cell? ⟨1, t, none⟩ = some (.int .u64 (C t))) (hg3 : 1 ≠ g) :
    Calls Tryd.prog 84 #[.pointer (some ⟨g, o, none⟩), .slice (some ⟨b, p, none⟩) n cap] w fun e w' => e = .returned (.tuple #[]) ∧ Touch w w' g o 8 ∧ w'.rangeAt g o (takes32 C B s (n / 64)).cells := by
  have HR : Hid (w.rangeAt g o s.cells) := hr
  have HT : Hid (w.there g o 8) := ht
  have HB : Hid (∀ i, i < n → w.cell? ⟨b, p + i, none⟩ = some (.int .u8 (B i))) := hB
  have HC : Hid (∀ t, t < 64 → w.cell? ⟨1, t, none⟩ = some (.int .u64 (C t))) := hC
  have HS : Hid (b ≠ g ∨ p + n ≤ o ∨ o + 8 ≤ p) := hsep
  have hcm' : cap ≤ 9223372036854775807 := by unfold maxLen at hcm; omega
  clear hr ht hB hC hcm hsep
  go_enter Tryd.func84, Tryd.ntmps84
  go_wp2
  go_loopw [1] (fun v wr => ∃ i q : Nat, 64 * i ≤ n ∧ (n = 64 * i ∨ q = p + 64 * i) ∧ v = .slice (some ⟨b, q, none⟩) (n - 64 * i) (cap - 64 * i) ∧ Hid (Touch w wr g o 8) ∧ Hid (wr.there w.heap.size 0 64 ∧ w.heap.size < wr.heap.size) ∧ Hid (wr.rangeAt g o (takes32 C B s i).cells)) (fun v _ => lenOf v)
  case atStart => exact ⟨0, p, by omega, .inr (by omega), rfl, (Touch.refl _ _ _ _).alloc _ hg, ⟨there_new w _ 142 64 (by decide), by simp⟩, World.rangeAt_alloc HR.out _⟩
  case round =>
    obtain ⟨i, q, hi, hq0, rfl, HT1, HN1, HR1⟩ := hrel
    by_cases hlt : 64 ≤ n - 64 * i
    · have hq : q = p + 64 * i := by omega
      obtain ⟨m, hm⟩ : ∃ m, m = n - 64 * i := ⟨_, rfl⟩
      obtain ⟨c, hc⟩ : ∃ c, c = cap - 64 * i := ⟨_, rfl⟩
      have hmc : m ≤ c := by omega
      have hcc : c ≤ 9223372036854775807 := by omega
      rw [← hm, ← hc]
      rw [← hm] at hlt
      have HQ : Hid (q = p + 64 * i ∧ m = n - 64 * i ∧ c = cap - 64 * i) := ⟨hq, hm, hc⟩
      have HBq : Hid (∀ j, j < 64 → w.cell? ⟨b, q + j, none⟩ = some (.int .u8 (B (64 * i + j)))) := fun j hj => by
        have := HB.out (64 * i + j) (by omega)
        rw [← Nat.add_assoc, ← hq] at this
        exact this
      have HSq : Hid (b ≠ g ∨ q + 64 ≤ o ∨ o + 8 ≤ q) := by rcases HS.out with h | h; exact .inl h; exact .inr (by omega)
      clear hq hm hc hq0
      go_wp2
      rw [show decide ((64 : Int) ≤ (m : Int)) = true by simp; omega]
      go_loopw [17] (fun v wr => ∃ t : Nat, t ≤ 16 ∧ v = .int .i64 t ∧ Hid (Touch w wr g o 8) ∧ Hid (wr.there w.heap.size 0 64 ∧ w.heap.size < wr.heap.size) ∧ Hid (wr.rangeAt g o (takes32 C B s i).cells) ∧ Hid (∀ j, j < t → wr.cell? ⟨w.heap.size, j, none⟩ = some (.int .u32 (sched32 (fun j => B (64 * i + j)) j)))) (fun v _ => 16 - (intOf v).toNat)
      case atStart => exact ⟨0, by omega, rfl, HT1, HN1, HR1, fun j hj => by omega⟩
      case round =>
        obtain ⟨t, ht, rfl, HT2, HN2, HR2, HF2⟩ := hrel
        clear HT1 HN1 HR1
        by_cases h16 : t < 16
        · have f0 : wr.cell? ⟨b, q + 4 * t, none⟩ = some (.int .u8 (B (64 * i + 4 * t))) := HT2.out.outside (HBq.out (4 * t) (by omega)) (by rcases HSq.out with h | h; exact .inl h; exact .inr (by omega))
          have f1 : wr.cell? ⟨b, q + 4 * t + 1, none⟩ = some (.int .u8 (B (64 * i + (4 * t + 1)))) := HT2.out.outside (HBq.out (4 * t + 1) (by omega)) (by rcases HSq.out with h | h; exact .inl h; exact .inr (by omega))
          have f2 : wr.cell? ⟨b, q + 4 * t + 2, none⟩ = some (.int .u8 (B (64 * i + (4 * t + 2)))) := HT2.out.outside (HBq.out (4 * t + 2) (by omega)) (by rcases HSq.out with h | h; exact .inl h; exact .inr (by omega))
          have f3 : wr.cell? ⟨b, q + 4 * t + 3, none⟩ = some (.int .u8 (B (64 * i + (4 * t + 3)))) := HT2.out.outside (HBq.out (4 * t + 3) (by omega)) (by rcases HSq.out with h | h; exact .inl h; exact .inr (by omega))
          have fw : wr.frozen? ⟨w.heap.size, t, none⟩ = false := by simpa using (HN2.out.1 t (by omega)).2
          obtain ⟨u, fu⟩ : ∃ u, wr.cell? ⟨w.heap.size, t, none⟩ = some u := by simpa [Option.isSome_iff_exists] using (HN2.out.1 t (by omega)).1
          go_wp2
          go_region
          go_wp2
          go_roundw
          case rel =>
            have hfill := fill_step (F := fun j => .int .u32 (sched32 (fun j => B (64 * i + j)) j)) HF2.out HN2.out.1 (show t < 64 by omega) (.int .u32 (word32 (fun j => B (64 * i + j)) t)) (by rw [sched32, if_pos h16])
            exact ⟨t + 1, by omega, by go_num, (HT2.out.setNew w.heap.size t _ (Nat.le_refl _) hg).drew, ⟨hfill.2, by simpa using HN2.out.2⟩, range_far HR2.out _ (by omega), hfill.1⟩
          case measure => simp [intOf]; omega
        · obtain rfl : t = 16 := by omega
          clear h16 ht HBq HSq
          go_wp2
          rw [show ((16 : Nat) : Int) = 16 from rfl]
          go_loopw [7] (fun v wr => ∃ t : Nat, t ≤ 48 ∧ v = .int .i64 (16 + (t : Int)) ∧ Hid (Touch w wr g o 8) ∧ Hid (wr.there w.heap.size 0 64 ∧ w.heap.size < wr.heap.size) ∧ Hid (wr.rangeAt g o (takes32 C B s i).cells) ∧ Hid (∀ j, j < 16 + t → wr.cell? ⟨w.heap.size, j, none⟩ = some (.int .u32 (sched32 (fun j => B (64 * i + j)) j)))) (fun v _ => 64 - (intOf v).toNat)
          case atStart => exact ⟨0, by omega, rfl, HT2, HN2, HR2, HF2⟩
          case round =>
            obtain ⟨t, ht, rfl, HT3, HN3, HR3, HF3⟩ := hrel
            clear HT2 HN2 HR2 HF2
            by_cases h48 : t < 48
            · have f2 : wr.cell? ⟨w.heap.size, t + 14, none⟩ = some (.int .u32 (sched32 (fun j => B (64 * i + j)) (t + 14))) := HF3.out _ (by omega)
              have f15 : wr.cell? ⟨w.heap.size, t + 1, none⟩ = some (.int .u32 (sched32 (fun j => B (64 * i + j)) (t + 1))) := HF3.out _ (by omega)
              have f7 : wr.cell? ⟨w.heap.size, t + 9, none⟩ = some (.int .u32 (sched32 (fun j => B (64 * i + j)) (t + 9))) := HF3.out _ (by omega)
              have f16 : wr.cell? ⟨w.heap.size, t, none⟩ = some (.int .u32 (sched32 (fun j => B (64 * i + j)) t)) := HF3.out _ (by omega)
              have fw : wr.frozen? ⟨w.heap.size, t + 16, none⟩ = false := by simpa using (HN3.out.1 (t + 16) (by omega)).2
              obtain ⟨u, fu⟩ : ∃ u, wr.cell? ⟨w.heap.size, t + 16, none⟩ = some u := by simpa [Option.isSome_iff_exists] using (HN3.out.1 (t + 16) (by omega)).1
              have e2 : (16 + (t : Int) - 2).toNat = t + 14 := by omega
              have e15 : (16 + (t : Int) - 15).toNat = t + 1 := by omega
              have e7 : (16 + (t : Int) - 7).toNat = t + 9 := by omega
              have e16 : (16 + (t : Int) - 16).toNat = t := by omega
              have e0 : (16 + (t : Int)).toNat = t + 16 := by omega
              go_wp2
              go_quiet (fail)
              go_wp2_with (first | (go_at_call 93; (first | refine (rot32_of 17 (by decide +kernel)).mono ?_ | refine (rot32_of 19 (by decide +kernel)).mono ?_ | refine (rot32_of 7 (by decide +kernel)).mono ?_ | refine (rot32_of 18 (by decide +kernel)).mono ?_); (rintro e1 w1 ⟨rfl, hw1⟩; obtain rfl := hw1.symm)))
              go_region
              go_wp2
              go_roundw
              case rel =>
                have hv : sched32 (fun j => B (64 * i + j)) (t + 16) = (lo1_32 (sched32 (fun j => B (64 * i + j)) (t + 14)) + sched32 (fun j => B (64 * i + j)) (t + 9) + lo0_32 (sched32 (fun j => B (64 * i + j)) (t + 1)) + sched32 (fun j => B (64 * i + j)) t) % 4294967296 := by
                  rw [sched32, if_neg (by omega)]
                  rw [show t + 16 - 2 = t + 14 by omega, show t + 16 - 7 = t + 9 by omega, show t + 16 - 15 = t + 1 by omega, show t + 16 - 16 = t by omega]
                have hF : ∀ j, j < t + 16 → wr.cell? ⟨w.heap.size, j, none⟩ = some (.int .u32 (sched32 (fun j => B (64 * i + j)) j)) := fun j hj => HF3.out j (by omega)
                have hfill := fill_step (w := wr.drewN nq) (F := fun j => .int .u32 (sched32 (fun j => B (64 * i + j)) j)) hF HN3.out.1 (show t + 16 < 64 by omega) (.int .u32 ((lo1_32 (sched32 (fun j => B (64 * i + j)) (t + 14)) + sched32 (fun j => B (64 * i + j)) (t + 9) + lo0_32 (sched32 (fun j => B (64 * i + j)) (t + 1)) + sched32 (fun j => B (64 * i + j)) t) % 4294967296)) (by rw [hv])
                exact ⟨t + 1, by omega, by go_num, ((HT3.out.drewN nq).setNew w.heap.size (t + 16) _ (Nat.le_refl _) hg).drew, ⟨hfill.2, by simpa using HN3.out.2⟩, range_far (w := wr.drewN nq) HR3.out _ (by omega), fun j hj => hfill.1 j (by omega)⟩
              case measure => simp [intOf]; omega
            · obtain rfl : t = 48 := by omega
              clear h48 ht
              go_wp2_with fail
              have hs := HT3.out.size
              refine (rounds32_walk g o w.heap.size _ _ _ _ _ _ _ _ (sched32 (fun j => B (64 * i + j))) C wr HR3.out (HT3.out.there _ _ HT.out) (fun j hj => HF3.out j (by omega)) (fun j hj => HT3.out.outside (HC.out j hj) (.inl hg3))).mono ?_
              rintro e w4 ⟨rfl, ht4, hr4⟩
              have HT4 : Hid (Touch w w4 g o 8) := HT3.out.trans ht4
              have HN4 : Hid (w4.there w.heap.size 0 64 ∧ w.heap.size < w4.heap.size) := ⟨ht4.thereFar HN3.out.1 HN3.out.2 (by omega), Nat.lt_of_lt_of_le HN3.out.2 ht4.size⟩
              have HR4 : Hid (w4.rangeAt g o (takes32 C B s (i + 1)).cells) := hr4
              clear ht4 hr4 HT3 HN3 HR3 HF3 hs
              go_wp2
              go_roundw
              case rel =>
                obtain ⟨h1, h2, h3⟩ := HQ.out
                exact ⟨i + 1, if c = 64 then q else q + 64, by omega, (by split <;> omega), slice_eq (by split <;> rfl) (by omega) (by omega), HT4, HN4, HR4⟩
              case measure => simp [lenOf]; omega
    · go_wp2
      go_end0
      refine ⟨rfl, HT1.out, ?_⟩
      rw [show n / 64 = i by omega]
      exact HR1.out
end Go.Proofs.YtinmhgackihakaaDoor
namespace Go.Proofs.YtinmhgackihakaaDoor
open Go.RowKit
set_option linter.unusedVariables false

def t1_64 (s : Eight) (kc wv : Int) : Int := (s.k + (bits .xor .u64 (bits .xor .u64 (rotl64 s.e 50) (rotl64 s.e 46)) (rotl64 s.e 23)) + (bits .xor .u64 (bits .and .u64 s.e s.f) (bits .and .u64 (bits .xor .u64 (if IntKind.u64.signed = true then -1 else IntKind.u64.max) s.e) s.g)) + kc + wv) % 18446744073709551616
def t2_64 (s : Eight) : Int := ((bits .xor .u64 (bits .xor .u64 (rotl64 s.a 36) (rotl64 s.a 30)) (rotl64 s.a 25)) + (bits .xor .u64 (bits .xor .u64 (bits .and .u64 s.a s.b) (bits .and .u64 s.a s.c)) (bits .and .u64 s.b s.c))) % 18446744073709551616
def round64 (s : Eight) (kc wv : Int) : Eight := ⟨(t1_64 s kc wv + t2_64 s) % 18446744073709551616, s.a, s.b, s.c, (s.d + t1_64 s kc wv) % 18446744073709551616, s.e, s.f, s.g⟩
def rounds64 (C W : Nat → Int) : Nat → Eight → Eight
  | 0, s => s
  | t + 1, s => round64 (rounds64 C W t s) (C t) (W t)

set_option maxHeartbeats 3200000 in
set_option maxRecDepth 100000 in
theorem rounds64_walk (g o wb : Nat) (h0 h1 h2 h3 h4 h5 h6 h7 : Int) (W C : Nat → Int) (w : World)
    (hr : w.rangeAt g o (Eight.cells ⟨h0, h1, h2, h3, h4, h5, h6, h7⟩)) (ht : w.there g o 8)
    (hW : ∀ t, t < 80 → w.cell? ⟨wb, t, none⟩ = some (.int .u64 (W t)))
    (hC : ∀ t, t < 80 → w.cell? ⟨1, t, none⟩ = some (.int .u64 (C t))) :
    Calls Tryd.prog 96 #[.pointer (some ⟨g, o, none⟩), .pointer (some ⟨wb, 0, none⟩)] w fun e w' => e = .returned (.tuple #[]) ∧ Touch w w' g o 8 ∧ w'.rangeAt g o (Eight.cells (Eight.zip (fun h x => (h + x) % 18446744073709551616) ⟨h0, h1, h2, h3, h4, h5, h6, h7⟩ (rounds64 C W 80 ⟨h0, h1, h2, h3, h4, h5, h6, h7⟩))) := by
  have HW : Hid (∀ t, t < 80 → w.cell? ⟨wb, t, none⟩ = some (.int .u64 (W t))) := hW
  have HC : Hid (∀ t, t < 80 → w.cell? ⟨1, t, none⟩ = some (.int .u64 (C t))) := hC
  have HR : Hid (w.rangeAt g o (Eight.cells ⟨h0, h1, h2, h3, h4, h5, h6, h7⟩)) := hr
  have HT : Hid (w.there g o 8) := ht
  have c0 : w.cell? ⟨g, o, none⟩ = some (.int .u64 h0) := hr 0 _ rfl
  have c1 : w.cell? ⟨g, o + 1, none⟩ = some (.int .u64 h1) := hr 1 _ rfl
  have c2 : w.cell? ⟨g, o + 2, none⟩ = some (.int .u64 h2) := hr 2 _ rfl
  have c3 : w.cell? ⟨g, o + 3, none⟩ = some (.int .u64 h3) := hr 3 _ rfl
  have c4 : w.cell? ⟨g, o + 4, none⟩ = some (.int .u64 h4) := hr 4 _ rfl
  have c5 : w.cell? ⟨g, o + 5, none⟩ = some (.int .u64 h5) := hr 5 _ rfl
  have c6 : w.cell? ⟨g, o + 6, none⟩ = some (.int .u64 h6) := hr 6 _ rfl
  have c7 : w.cell? ⟨g, o + 7, none⟩ = some (.int .u64 h7) := hr 7 _ rfl
  clear hW hC hr ht
  go_enter Tryd.func96, Tryd.ntmps96
  go_wp2
  go_quiet (fail)
  go_wp2
  go_quiet (fail)
  clear c0 c1 c2 c3 c4 c5 c6 c7
  go_wp2
  go_loopw [4, 5, 6, 7, 8, 9, 10, 11, 51] (fun va vb vc vd ve vf vg vk i wr => ∃ t : Nat, ∃ s : Eight, t ≤ 80 ∧ i = .int .i64 t ∧ va = .int .u64 s.a ∧ vb = .int .u64 s.b ∧ vc = .int .u64 s.c ∧ vd = .int .u64 s.d ∧ ve = .int .u64 s.e ∧ vf = .int .u64 s.f ∧ vg = .int .u64 s.g ∧ vk = .int .u64 s.k ∧ Hid (s = rounds64 C W t ⟨h0, h1, h2, h3, h4, h5, h6, h7⟩) ∧ Hid (Sm w wr)) (fun _ _ _ _ _ _ _ _ i _ => 80 - (intOf i).toNat)
  case atStart => exact ⟨0, ⟨h0, h1, h2, h3, h4, h5, h6, h7⟩, by omega, rfl, rfl, rfl, rfl, rfl, rfl, rfl, rfl, rfl, rfl, ((Sm.refl w).drewN _).drewN _⟩
  case round =>
    obtain ⟨t, ⟨a, b, c, d, e, f, g1, k⟩, ht, rfl, rfl, rfl, rfl, rfl, rfl, rfl, rfl, rfl, HS, HM⟩ := hrel
    by_cases hlt : t < 80
    · have hw : wr.cell? ⟨wb, t, none⟩ = some (.int .u64 (W t)) := by rw [HM.out.cell]; exact HW.out t hlt
      have hc : wr.cell? ⟨1, t, none⟩ = some (.int .u64 (C t)) := by rw [HM.out.cell]; exact HC.out t hlt
      go_wp2_with (first | (go_at_call 95; (first | refine (rot64_of 14 (by decide +kernel)).mono ?_ | refine (rot64_of 18 (by decide +kernel)).mono ?_ | refine (rot64_of 41 (by decide +kernel)).mono ?_ | refine (rot64_of 28 (by decide +kernel)).mono ?_ | refine (rot64_of 34 (by decide +kernel)).mono ?_ | refine (rot64_of 39 (by decide +kernel)).mono ?_); (rintro e1 w1 ⟨rfl, hw1⟩; obtain rfl := hw1.symm)))
      go_quiet (fail)
      go_wp2_with (first | (go_at_call 95; (first | refine (rot64_of 14 (by decide +kernel)).mono ?_ | refine (rot64_of 18 (by decide +kernel)).mono ?_ | refine (rot64_of 41 (by decide +kernel)).mono ?_ | refine (rot64_of 28 (by decide +kernel)).mono ?_ | refine (rot64_of 34 (by decide +kernel)).mono ?_ | refine (rot64_of 39 (by decide +kernel)).mono ?_); (rintro e1 w1 ⟨rfl, hw1⟩; obtain rfl := hw1.symm)))
      go_roundw
      case rel =>
        refine ⟨t + 1, round64 ⟨a, b, c, d, e, f, g1, k⟩ (C t) (W t), by omega, by go_num, (val_eqD (by simp only [round64, t1_64, t2_64, IntKind.wrap_u64, Int.emod_add_emod, Int.add_emod_emod])), rfl, rfl, rfl, (val_eqD (by simp only [round64, t1_64, t2_64, IntKind.wrap_u64, Int.emod_add_emod, Int.add_emod_emod])), rfl, rfl, rfl, ?_, HM.out.drewN _⟩
        have := HS.out
        rw [this]
        exact rfl
      case measure => simp [intOf]; omega
    · obtain rfl : t = 80 := by omega
      clear hlt ht HW HC
      have HE : Hid (Eight.zip (fun h x => (h + x) % 18446744073709551616) ⟨h0, h1, h2, h3, h4, h5, h6, h7⟩ (rounds64 C W 80 ⟨h0, h1, h2, h3, h4, h5, h6, h7⟩) = ⟨((h0 + a) % 18446744073709551616), ((h1 + b) % 18446744073709551616), ((h2 + c) % 18446744073709551616), ((h3 + d) % 18446744073709551616), ((h4 + e) % 18446744073709551616), ((h5 + f) % 18446744073709551616), ((h6 + g1) % 18446744073709551616), ((h7 + k) % 18446744073709551616)⟩) := by
        rw [← HS.out]
        exact rfl
      clear HS
      go_wp2
      go_loopw [127] (fun i wr => ∃ q : Nat, q ≤ 8 ∧ i = .int .i64 q ∧ Hid (Touch w wr g o 8) ∧ Hid (wr.rangeAt g o ((Eight.cells ⟨((h0 + a) % 18446744073709551616), ((h1 + b) % 18446744073709551616), ((h2 + c) % 18446744073709551616), ((h3 + d) % 18446744073709551616), ((h4 + e) % 18446744073709551616), ((h5 + f) % 18446744073709551616), ((h6 + g1) % 18446744073709551616), ((h7 + k) % 18446744073709551616)⟩).take q ++ (Eight.cells ⟨h0, h1, h2, h3, h4, h5, h6, h7⟩).drop q))) (fun i _ => 8 - (intOf i).toNat)
      case atStart => exact ⟨0, by omega, rfl, HM.out.touch _ _ _, fun j v hv => by rw [HM.out.cell]; exact HR.out j v hv⟩
      case round =>
        obtain ⟨q, hq, rfl, HT1, HR1⟩ := hrel
        have hq9 : q = 0 ∨ q = 1 ∨ q = 2 ∨ q = 3 ∨ q = 4 ∨ q = 5 ∨ q = 6 ∨ q = 7 ∨ q = 8 := by omega
        clear hq HM
        rcases hq9 with rfl | rfl | rfl | rfl | rfl | rfl | rfl | rfl | rfl
        · have hcell : wr.cell? ⟨g, o, none⟩ = some (.int .u64 h0) := HR1.out 0 _ rfl
          have hfr : wr.frozen? ⟨g, o, none⟩ = false := ((HT1.out.there _ _ HT.out) 0 (by omega)).2
          have hrun : Sem.run Tryd.prog (Instr.index 113 (.agg #[.int .u64 a, .int .u64 b, .int .u64 c, .int .u64 d, .int .u64 e, .int .u64 f, .int .u64 g1, .int .u64 k]) (.int .i64 0)) wr = .ok (.int .u64 a) wr := by kernel_rfl
          go_wp2
          go_region
          go_wp2
          go_roundw
          case rel =>
            refine ⟨1, by omega, rfl, ?_, ?_⟩
            · exact (HT1.out.setCell (o) _ (by omega) (by omega)).drew
            · exact (World.rangeAt_drew _ _ _ _).2 (step_cells (q := 0) HR1.out (HT1.out.there _ _ HT.out) (by omega) _ (by rw [IntKind.wrap_u64]; exact rfl))
          case measure => simp [intOf]
        · have hcell : wr.cell? ⟨g, o + 1, none⟩ = some (.int .u64 h1) := HR1.out 1 _ rfl
          have hfr : wr.frozen? ⟨g, o + 1, none⟩ = false := ((HT1.out.there _ _ HT.out) 1 (by omega)).2
          have hrun : Sem.run Tryd.prog (Instr.index 113 (.agg #[.int .u64 a, .int .u64 b, .int .u64 c, .int .u64 d, .int .u64 e, .int .u64 f, .int .u64 g1, .int .u64 k]) (.int .i64 1)) wr = .ok (.int .u64 b) wr := by kernel_rfl
          go_wp2
          go_region
          go_wp2
          go_roundw
          case rel =>
            refine ⟨2, by omega, rfl, ?_, ?_⟩
            · exact (HT1.out.setCell (o + 1) _ (by omega) (by omega)).drew
            · exact (World.rangeAt_drew _ _ _ _).2 (step_cells (q := 1) HR1.out (HT1.out.there _ _ HT.out) (by omega) _ (by rw [IntKind.wrap_u64]; exact rfl))
          case measure => simp [intOf]
        · have hcell : wr.cell? ⟨g, o + 2, none⟩ = some (.int .u64 h2) := HR1.out 2 _ rfl
          have hfr : wr.frozen? ⟨g, o + 2, none⟩ = false := ((HT1.out.there _ _ HT.out) 2 (by omega)).2
          have hrun : Sem.run Tryd.prog (Instr.index 113 (.agg #[.int .u64 a, .int .u64 b, .int .u64 c, .int .u64 d, .int .u64 e, .int .u64 f, .int .u64 g1, .int .u64 k]) (.int .i64 2)) wr = .ok (.int .u64 c) wr := by kernel_rfl
          go_wp2
          go_region
          go_wp2
          go_roundw
          case rel =>
            refine ⟨3, by omega, rfl, ?_, ?_⟩
            · exact (HT1.out.setCell (o + 2) _ (by omega) (by omega)).drew
            · exact (World.rangeAt_drew _ _ _ _).2 (step_cells (q := 2) HR1.out (HT1.out.there _ _ HT.out) (by omega) _ (by rw [IntKind.wrap_u64]; exact rfl))
          case measure => simp [intOf]
        · have hcell : wr.cell? ⟨g, o + 3, none⟩ = some (.int .u64 h3) := HR1.out 3 _ rfl
          have hfr : wr.frozen? ⟨g, o + 3, none⟩ = false := ((HT1.out.there _ _ HT.out) 3 (by omega)).2
          have hrun : Sem.run Tryd.prog (Instr.index 113 (.agg #[.int .u64 a, .int .u64 b, .int .u64 c, .int .u64 d, .int .u64 e, .int .u64 f, .int .u64 g1, .int .u64 k]) (.int .i64 3)) wr = .ok (.int .u64 d) wr := by kernel_rfl
          go_wp2
          go_region
          go_wp2
          go_roundw
          case rel =>
            refine ⟨4, by omega, rfl, ?_, ?_⟩
            · exact (HT1.out.setCell (o + 3) _ (by omega) (by omega)).drew
            · exact (World.rangeAt_drew _ _ _ _).2 (step_cells (q := 3) HR1.out (HT1.out.there _ _ HT.out) (by omega) _ (by rw [IntKind.wrap_u64]; exact rfl))
          case measure => simp [intOf]
        · have hcell : wr.cell? ⟨g, o + 4, none⟩ = some (.int .u64 h4) := HR1.out 4 _ rfl
          have hfr : wr.frozen? ⟨g, o + 4, none⟩ = false := ((HT1.out.there _ _ HT.out) 4 (by omega)).2
          have hrun : Sem.run Tryd.prog (Instr.index 113 (.agg #[.int .u64 a, .int .u64 b, .int .u64 c, .int .u64 d, .int .u64 e, .int .u64 f, .int .u64 g1, .int .u64 k]) (.int .i64 4)) wr = .ok (.int .u64 e) wr := by kernel_rfl
          go_wp2
          go_region
          go_wp2
          go_roundw
          case rel =>
            refine ⟨5, by omega, rfl, ?_, ?_⟩
            · exact (HT1.out.setCell (o + 4) _ (by omega) (by omega)).drew
            · exact (World.rangeAt_drew _ _ _ _).2 (step_cells (q := 4) HR1.out (HT1.out.there _ _ HT.out) (by omega) _ (by rw [IntKind.wrap_u64]; exact rfl))
          case measure => simp [intOf]
        · have hcell : wr.cell? ⟨g, o + 5, none⟩ = some (.int .u64 h5) := HR1.out 5 _ rfl
          have hfr : wr.frozen? ⟨g, o + 5, none⟩ = false := ((HT1.out.there _ _ HT.out) 5 (by omega)).2
          have hrun : Sem.run Tryd.prog (Instr.index 113 (.agg #[.int .u64 a, .int .u64 b, .int .u64 c, .int .u64 d, .int .u64 e, .int .u64 f, .int .u64 g1, .int .u64 k]) (.int .i64 5)) wr = .ok (.int .u64 f) wr := by kernel_rfl
          go_wp2
          go_region
          go_wp2
          go_roundw
          case rel =>
            refine ⟨6, by omega, rfl, ?_, ?_⟩
            · exact (HT1.out.setCell (o + 5) _ (by omega) (by omega)).drew
            · exact (World.rangeAt_drew _ _ _ _).2 (step_cells (q := 5) HR1.out (HT1.out.there _ _ HT.out) (by omega) _ (by rw [IntKind.wrap_u64]; exact rfl))
          case measure => simp [intOf]
        · have hcell : wr.cell? ⟨g, o + 6, none⟩ = some (.int .u64 h6) := HR1.out 6 _ rfl
          have hfr : wr.frozen? ⟨g, o + 6, none⟩ = false := ((HT1.out.there _ _ HT.out) 6 (by omega)).2
          have hrun : Sem.run Tryd.prog (Instr.index 113 (.agg #[.int .u64 a, .int .u64 b, .int .u64 c, .int .u64 d, .int .u64 e, .int .u64 f, .int .u64 g1, .int .u64 k]) (.int .i64 6)) wr = .ok (.int .u64 g1) wr := by kernel_rfl
          go_wp2
          go_region
          go_wp2
          go_roundw
          case rel =>
            refine ⟨7, by omega, rfl, ?_, ?_⟩
            · exact (HT1.out.setCell (o + 6) _ (by omega) (by omega)).drew
            · exact (World.rangeAt_drew _ _ _ _).2 (step_cells (q := 6) HR1.out (HT1.out.there _ _ HT.out) (by omega) _ (by rw [IntKind.wrap_u64]; exact rfl))
          case measure => simp [intOf]
        · have hcell : wr.cell? ⟨g, o + 7, none⟩ = some (.int .u64 h7) := HR1.out 7 _ rfl
          have hfr : wr.frozen? ⟨g, o + 7, none⟩ = false := ((HT1.out.there _ _ HT.out) 7 (by omega)).2
          have hrun : Sem.run Tryd.prog (Instr.index 113 (.agg #[.int .u64 a, .int .u64 b, .int .u64 c, .int .u64 d, .int .u64 e, .int .u64 f, .int .u64 g1, .int .u64 k]) (.int .i64 7)) wr = .ok (.int .u64 k) wr := by kernel_rfl
          go_wp2
          go_region
          go_wp2
          go_roundw
          case rel =>
            refine ⟨8, by omega, rfl, ?_, ?_⟩
            · exact (HT1.out.setCell (o + 7) _ (by omega) (by omega)).drew
            · exact (World.rangeAt_drew _ _ _ _).2 (step_cells (q := 7) HR1.out (HT1.out.there _ _ HT.out) (by omega) _ (by rw [IntKind.wrap_u64]; exact rfl))
          case measure => simp [intOf]
        · go_wp2
          go_end0
          refine ⟨rfl, HT1.out, ?_⟩
          rw [HE.out]
          exact HR1.out
end Go.Proofs.YtinmhgackihakaaDoor
namespace Go.Proofs.YtinmhgackihakaaDoor
open Go.RowKit
set_option linter.unusedVariables false
theorem fill_stepP {w : World} {k t N : Nat} {F : Nat → Value} (h : ∀ j, j < t → w.cell? ⟨k, j, none⟩ = some (F j)) (ht : w.there k 0 N) (htN : t < N) (u : Value) (hu : u = F t) :
    (∀ j, j < t + 1 → (w.setCell ⟨k, t, none⟩ u).cell? ⟨k, j, none⟩ = some (F j)) ∧ (w.setCell ⟨k, t, none⟩ u).there k 0 N := fill_step h ht htN u hu
theorem range_farP {w : World} {g o k t : Nat} {cs : List Value} (h : w.rangeAt g o cs) (u : Value) (hne : g ≠ k) : (w.setCell ⟨k, t, none⟩ u).rangeAt g o cs :=
  World.rangeAt_setCells_apart h k t [u] (.inl hne)

/-- A word of a block of 128 bytes, as far as its first k bytes; the words that follow. -/
def part64 (B : Nat → Int) (t : Nat) : Nat → Int
  | 0 => 0
  | k + 1 => bits .or .u64 (part64 B t k * 256 % 18446744073709551616) (B (8 * t + k) % 18446744073709551616)
def lo1_64 (x : Int) : Int := bits .xor .u64 (bits .xor .u64 (rotl64 x 45) (rotl64 x 3)) (x / 64)
def lo0_64 (x : Int) : Int := bits .xor .u64 (bits .xor .u64 (rotl64 x 63) (rotl64 x 56)) (x / 128)
def sched64 (B : Nat → Int) (t : Nat) : Int :=
  if t < 16 then part64 B t 8 else (lo1_64 (sched64 B (t - 2)) + sched64 B (t - 7) + lo0_64 (sched64 B (t - 15)) + sched64 B (t - 16)) % 18446744073709551616
termination_by t
decreasing_by all_goals omega
def block64 (C B : Nat → Int) (s : Eight) : Eight := Eight.zip (fun h x => (h + x) % 18446744073709551616) s (rounds64 C (sched64 B) 80 s)
def takes64 (C B : Nat → Int) (s : Eight) : Nat → Eight
  | 0 => s
  | i + 1 => block64 C (fun j => B (128 * i + j)) (takes64 C B s i)

set_option maxHeartbeats 6400000 in
set_option maxRecDepth 100000 in
theorem wide_walk (g o b p n cap : Nat) (s : Eight) (C B : Nat → Int) (w : World) (hg : g < w.heap.size) (hcap : n ≤ cap) (hcm : cap ≤ maxLen)
    (hr : w.rangeAt g o s.cells) (ht : w.there g o 8)
    (hB : ∀ i, i < n → w.cell? ⟨b, p + i, none⟩ = some (.int .u8 (B i)))
    (hsep : b ≠ g ∨ p + n ≤ o ∨ o + 8 ≤ p)
    (hC : ∀ t, t < 80 → w.cell? ⟨1, t, none⟩ = some (.int .u64 (C t))) (hg3 : 1 ≠ g) :
    Calls Tryd.prog 85 #[.pointer (some ⟨g, o, none⟩), .slice (some ⟨b, p, none⟩) n cap] w fun e w' => e = .returned (.tuple #[]) ∧ Touch w w' g o 8 ∧ w'.rangeAt g o (takes64 C B s (n / 128)).cells := by
  have HR : Hid (w.rangeAt g o s.cells) := hr
  have HT : Hid (w.there g o 8) := ht
  have HB : Hid (∀ i, i < n → w.cell? ⟨b, p + i, none⟩ = some (.int .u8 (B i))) := hB
  have HC : Hid (∀ t, t < 80 → w.cell? ⟨1, t, none⟩ = some (.int .u64 (C t))) := hC
  have HS : Hid (b ≠ g ∨ p + n ≤ o ∨ o + 8 ≤ p) := hsep
  have hcm' : cap ≤ 9223372036854775807 := by unfold maxLen at hcm; omega
  clear hr ht hB hC hcm hsep
  go_enter Tryd.func85, Tryd.ntmps85
  go_wp2
  go_loopw [1] (fun v wr => ∃ i q : Nat, 128 * i ≤ n ∧ (n = 128 * i ∨ q = p + 128 * i) ∧ v = .slice (some ⟨b, q, none⟩) (n - 128 * i) (cap - 128 * i) ∧ Hid (Touch w wr g o 8) ∧ Hid (wr.there w.heap.size 0 80 ∧ w.heap.size < wr.heap.size) ∧ Hid (wr.rangeAt g o (takes64 C B s i).cells)) (fun v _ => lenOf v)
  case atStart => exact ⟨0, p, by omega, .inr (by omega), rfl, (Touch.refl _ _ _ _).alloc _ hg, ⟨there_new w _ 146 80 (by decide), by simp⟩, World.rangeAt_alloc HR.out _⟩
  case round =>
    obtain ⟨i, q, hi, hq0, rfl, HT1, HN1, HR1⟩ := hrel
    by_cases hlt : 128 ≤ n - 128 * i
    · have hq : q = p + 128 * i := by omega
      obtain ⟨m, hm⟩ : ∃ m, m = n - 128 * i := ⟨_, rfl⟩
      obtain ⟨c, hc⟩ : ∃ c, c = cap - 128 * i := ⟨_, rfl⟩
      have hmc : m ≤ c := by omega
      have hcc : c ≤ 9223372036854775807 := by omega
      rw [← hm, ← hc]
      rw [← hm] at hlt
      have HQ : Hid (q = p + 128 * i ∧ m = n - 128 * i ∧ c = cap - 128 * i) := ⟨hq, hm, hc⟩
      have HBq : Hid (∀ j, j < 128 → w.cell? ⟨b, q + j, none⟩ = some (.int .u8 (B (128 * i + j)))) := fun j hj => by
        have := HB.out (128 * i + j) (by omega)
        rw [← Nat.add_assoc, ← hq] at this
        exact this
      have HSq : Hid (b ≠ g ∨ q + 128 ≤ o ∨ o + 8 ≤ q) := by rcases HS.out with h | h; exact .inl h; exact .inr (by omega)
      clear hq hm hc hq0
      go_wp2
      rw [show decide ((128 : Int) ≤ (m : Int)) = true by simp; omega]
      go_loopw [19] (fun v wr => ∃ t : Nat, t ≤ 16 ∧ v = .int .i64 t ∧ Hid (Touch w wr g o 8) ∧ Hid (wr.there w.heap.size 0 80 ∧ w.heap.size < wr.heap.size) ∧ Hid (wr.rangeAt g o (takes64 C B s i).cells) ∧ Hid (∀ j, j < t → wr.cell? ⟨w.heap.size, j, none⟩ = some (.int .u64 (sched64 (fun j => B (128 * i + j)) j)))) (fun v _ => 16 - (intOf v).toNat)
      case atStart => exact ⟨0, by omega, rfl, HT1, HN1, HR1, fun j hj => by omega⟩
      case round =>
        obtain ⟨t, ht, rfl, HT2, HN2, HR2, HF2⟩ := hrel
        clear HT1 HN1 HR1
        by_cases h16 : t < 16
        · have fw : wr.frozen? ⟨w.heap.size, t, none⟩ = false := by simpa using (HN2.out.1 t (by omega)).2
          obtain ⟨u, fu⟩ : ∃ u, wr.cell? ⟨w.heap.size, t, none⟩ = some u := by simpa [Option.isSome_iff_exists] using (HN2.out.1 t (by omega)).1
          go_wp2
          go_loop [6, 30] (fun x v => ∃ k : Nat, k ≤ 8 ∧ v = .int .i64 k ∧ x = .int .u64 (part64 (fun j => B (128 * i + j)) t k)) (fun _ v => 8 - (intOf v).toNat)
          case atStart => exact ⟨0, by omega, rfl, rfl⟩
          case round =>
            obtain ⟨k, hk, rfl, rfl⟩ := hrel
            by_cases h8 : k < 8
            · have f0 : wr.cell? ⟨b, q + 8 * t + k, none⟩ = some (.int .u8 (B (128 * i + (8 * t + k)))) := HT2.out.outside (by have := HBq.out (8 * t + k) (by omega); rw [← Nat.add_assoc] at this; exact this) (by rcases HSq.out with h | h; exact .inl h; exact .inr (by omega))
              go_wp2
              go_round
              case rel => exact ⟨k + 1, by omega, by go_num, val_eqD (by rw [IntKind.wrap_u64, IntKind.wrap_u64]; exact rfl)⟩
              case measure => simp [intOf]; omega
            · obtain rfl : k = 8 := by omega
              go_wp2
              go_roundw
              case rel =>
                have hfill := fill_stepP (F := fun j => .int .u64 (sched64 (fun j => B (128 * i + j)) j)) HF2.out HN2.out.1 (show t < 80 by omega) (.int .u64 (part64 (fun j => B (128 * i + j)) t 8)) (by rw [sched64, if_pos h16])
                exact ⟨t + 1, by omega, by go_num, HT2.out.setNew w.heap.size t _ (Nat.le_refl _) hg, ⟨hfill.2, by simpa using HN2.out.2⟩, range_farP HR2.out _ (by omega), hfill.1⟩
              case measure => simp [intOf]; omega
        · obtain rfl : t = 16 := by omega
          clear h16 ht HBq HSq
          go_wp2
          rw [show ((16 : Nat) : Int) = 16 from rfl]
          go_loopw [9] (fun v wr => ∃ t : Nat, t ≤ 64 ∧ v = .int .i64 (16 + (t : Int)) ∧ Hid (Touch w wr g o 8) ∧ Hid (wr.there w.heap.size 0 80 ∧ w.heap.size < wr.heap.size) ∧ Hid (wr.rangeAt g o (takes64 C B s i).cells) ∧ Hid (∀ j, j < 16 + t → wr.cell? ⟨w.heap.size, j, none⟩ = some (.int .u64 (sched64 (fun j => B (128 * i + j)) j)))) (fun v _ => 80 - (intOf v).toNat)
          case atStart => exact ⟨0, by omega, rfl, HT2, HN2, HR2, HF2⟩
          case round =>
            obtain ⟨t, ht, rfl, HT3, HN3, HR3, HF3⟩ := hrel
            clear HT2 HN2 HR2 HF2
            by_cases h48 : t < 64
            · have f2 : wr.cell? ⟨w.heap.size, t + 14, none⟩ = some (.int .u64 (sched64 (fun j => B (128 * i + j)) (t + 14))) := HF3.out _ (by omega)
              have f15 : wr.cell? ⟨w.heap.size, t + 1, none⟩ = some (.int .u64 (sched64 (fun j => B (128 * i + j)) (t + 1))) := HF3.out _ (by omega)
              have f7 : wr.cell? ⟨w.heap.size, t + 9, none⟩ = some (.int .u64 (sched64 (fun j => B (128 * i + j)) (t + 9))) := HF3.out _ (by omega)
              have f16 : wr.cell? ⟨w.heap.size, t, none⟩ = some (.int .u64 (sched64 (fun j => B (128 * i + j)) t)) := HF3.out _ (by omega)
              have fw : wr.frozen? ⟨w.heap.size, t + 16, none⟩ = false := by simpa using (HN3.out.1 (t + 16) (by omega)).2
              obtain ⟨u, fu⟩ : ∃ u, wr.cell? ⟨w.heap.size, t + 16, none⟩ = some u := by simpa [Option.isSome_iff_exists] using (HN3.out.1 (t + 16) (by omega)).1
              have e2 : (16 + (t : Int) - 2).toNat = t + 14 := by omega
              have e15 : (16 + (t : Int) - 15).toNat = t + 1 := by omega
              have e7 : (16 + (t : Int) - 7).toNat = t + 9 := by omega
              have e16 : (16 + (t : Int) - 16).toNat = t := by omega
              have e0 : (16 + (t : Int)).toNat = t + 16 := by omega
              go_wp2
              go_quiet (fail)
              go_wp2_with (first | (go_at_call 95; (first | refine (rot64_of 19 (by decide +kernel)).mono ?_ | refine (rot64_of 61 (by decide +kernel)).mono ?_ | refine (rot64_of 1 (by decide +kernel)).mono ?_ | refine (rot64_of 8 (by decide +kernel)).mono ?_); (rintro e1 w1 ⟨rfl, hw1⟩; obtain rfl := hw1.symm)))
              go_region
              go_wp2
              go_roundw
              case rel =>
                have hv : sched64 (fun j => B (128 * i + j)) (t + 16) = (lo1_64 (sched64 (fun j => B (128 * i + j)) (t + 14)) + sched64 (fun j => B (128 * i + j)) (t + 9) + lo0_64 (sched64 (fun j => B (128 * i + j)) (t + 1)) + sched64 (fun j => B (128 * i + j)) t) % 18446744073709551616 := by
                  rw [sched64, if_neg (by omega)]
                  rw [show t + 16 - 2 = t + 14 by omega, show t + 16 - 7 = t + 9 by omega, show t + 16 - 15 = t + 1 by omega, show t + 16 - 16 = t by omega]
                have hF : ∀ j, j < t + 16 → wr.cell? ⟨w.heap.size, j, none⟩ = some (.int .u64 (sched64 (fun j => B (128 * i + j)) j)) := fun j hj => HF3.out j (by omega)
                have hfill := fill_step (w := wr.drewN nq) (F := fun j => .int .u64 (sched64 (fun j => B (128 * i + j)) j)) hF HN3.out.1 (show t + 16 < 80 by omega) (.int .u64 (IntKind.u64.wrap (IntKind.u64.wrap (IntKind.u64.wrap (lo1_64 (sched64 (fun j => B (128 * i + j)) (t + 14)) + sched64 (fun j => B (128 * i + j)) (t + 9)) + lo0_64 (sched64 (fun j => B (128 * i + j)) (t + 1))) + sched64 (fun j => B (128 * i + j)) t))) (val_eqD (by rw [hv]; simp only [IntKind.wrap_u64, Int.emod_add_emod]))
                exact ⟨t + 1, by omega, by go_num, ((HT3.out.drewN nq).setNew w.heap.size (t + 16) _ (Nat.le_refl _) hg).drew, ⟨hfill.2, by simpa using HN3.out.2⟩, range_far (w := wr.drewN nq) HR3.out _ (by omega), fun j hj => hfill.1 j (by omega)⟩
              case measure => simp [intOf]; omega
            · obtain rfl : t = 64 := by omega
              clear h48 ht
              go_wp2_with fail
              have hs := HT3.out.size
              refine (rounds64_walk g o w.heap.size _ _ _ _ _ _ _ _ (sched64 (fun j => B (128 * i + j))) C wr HR3.out (HT3.out.there _ _ HT.out) (fun j hj => HF3.out j (by omega)) (fun j hj => HT3.out.outside (HC.out j hj) (.inl hg3))).mono ?_
              rintro e w4 ⟨rfl, ht4, hr4⟩
              have HT4 : Hid (Touch w w4 g o 8) := HT3.out.trans ht4
              have HN4 : Hid (w4.there w.heap.size 0 80 ∧ w.heap.size < w4.heap.size) := ⟨ht4.thereFar HN3.out.1 HN3.out.2 (by omega), Nat.lt_of_lt_of_le HN3.out.2 ht4.size⟩
              have HR4 : Hid (w4.rangeAt g o (takes64 C B s (i + 1)).cells) := hr4
              clear ht4 hr4 HT3 HN3 HR3 HF3 hs
              go_wp2
              go_roundw
              case rel =>
                obtain ⟨h1, h2, h3⟩ := HQ.out
                exact ⟨i + 1, if c = 128 then q else q + 128, by omega, (by split <;> omega), slice_eq (by split <;> rfl) (by omega) (by omega), HT4, HN4, HR4⟩
              case measure => simp [lenOf]; omega
    · go_wp2
      go_end0
      refine ⟨rfl, HT1.out, ?_⟩
      rw [show n / 128 = i by omega]
      exact HR1.out
end Go.Proofs.YtinmhgackihakaaDoor
namespace Go.Proofs.YtinmhgackihakaaDoor
open Go.RowKit

/-- A list of bytes behind a slice value. -/
def View (w : World) (v : Value) (zs : List Int) : Prop :=
  ∃ a cap, v = .slice a zs.length cap ∧ zs.length ≤ cap ∧ cap ≤ maxLen ∧ (a = none → cap = 0) ∧
    (zs = [] ∨ ∃ b off, a = some ⟨b, off, none⟩ ∧ ∀ i, i < zs.length → w.cell? ⟨b, off + i, none⟩ = some (.int .u8 (zs.getD i 0)))

theorem ret_bool {a b : Bool} (h : a = b) : Ending.returned (.bool a) = .returned (.bool b) := by rw [h]
theorem ext_getD {xs ys : List Int} {n : Nat} (hx : xs.length = n) (hy : ys.length = n) (h : ∀ j, j < n → xs.getD j 0 = ys.getD j 0) : xs = ys := by
  apply List.ext_getElem (by omega)
  intro i h1 h2
  have := h i (by omega)
  simpa [List.getD, List.getElem?_eq_getElem h1, List.getElem?_eq_getElem h2] using this

set_option maxHeartbeats 400000 in
theorem same_core (b1 o1 b2 o2 c1 c2 n : Nat) (xs ys : List Int) (w : World) (hx : xs.length = n) (hy : ys.length = n) (hn : n ≤ 9223372036854775807)
    (h1 : ∀ i, i < n → w.cell? ⟨b1, o1 + i, none⟩ = some (.int .u8 (xs.getD i 0)))
    (h2 : ∀ i, i < n → w.cell? ⟨b2, o2 + i, none⟩ = some (.int .u8 (ys.getD i 0))) :
    Calls Tryd.prog 14 #[.slice (some ⟨b1, o1, none⟩) n c1, .slice (some ⟨b2, o2, none⟩) n c2] w fun e w' => e = .returned (.bool (decide (xs = ys))) ∧ ∃ m, w' = w.drewN m := by
  have HX : Hid (xs.length = n) := hx
  have HY : Hid (ys.length = n) := hy
  clear hx hy
  go_enter Tryd.func14, Tryd.ntmps14
  go_wp2
  go_loopw [5] (fun i wr => ∃ k : Nat, k ≤ n ∧ i = .int .i64 k ∧ Hid (∀ j, j < k → xs.getD j 0 = ys.getD j 0) ∧ ∃ m, wr = w.drewN m) (fun i _ => n - (intOf i).toNat)
  case atStart => exact ⟨0, Nat.zero_le _, rfl, (fun j hj => by omega), 0, rfl⟩
  case round =>
    obtain ⟨k, hk, rfl, HE, m, rfl⟩ := hrel
    by_cases hlt : k < n
    · have g1 := h1 k hlt
      have g2 := h2 k hlt
      clear h1 h2
      go_wp2
      go_quiet (fail)
      go_wp2
      · have hne : (xs[k]?.getD 0 != ys[k]?.getD 0) = true := by assumption
        go_ret
        refine ⟨ret_bool ?_, _, World.drewN_drewN _ _ _⟩
        have : xs ≠ ys := by
          intro h
          subst h
          simp at hne
        simp [this]
      · have heq : (xs[k]?.getD 0 != ys[k]?.getD 0) = false := by assumption
        go_roundw
        case rel =>
          refine ⟨k + 1, by omega, by go_num, ?_, _, rfl⟩
          intro j hj
          by_cases hjk : j < k
          · exact HE.out j hjk
          · obtain rfl : j = k := by omega
            simpa using heq
        case measure => simp [intOf]; omega
    · go_wp2
      go_ret
      have := ext_getD HX.out HY.out (fun j hj => HE.out j (by omega))
      exact ⟨ret_bool (by simp [this]), _, rfl⟩

theorem same_zero (a1 a2 : Option Addr) (c1 c2 : Nat) (w : World) :
    Calls Tryd.prog 14 #[.slice a1 0 c1, .slice a2 0 c2] w fun e w' => e = .returned (.bool true) ∧ ∃ m, w' = w.drewN m := by
  go_enter Tryd.func14, Tryd.ntmps14
  go_wp2
  go_loop [5] (fun i => i = .int .i64 0) (fun _ => 0)
  case atStart => rfl
  case round =>
    subst hrel
    go_wp2
    go_ret
    exact ⟨rfl, 0, rfl⟩

theorem same_unlike (a1 a2 : Option Addr) (l1 l2 c1 c2 : Nat) (w : World) (h : l1 ≠ l2) :
    Calls Tryd.prog 14 #[.slice a1 l1 c1, .slice a2 l2 c2] w fun e w' => e = .returned (.bool false) ∧ ∃ m, w' = w.drewN m := by
  have hb : ((l1 : Int) != (l2 : Int)) = true := by rw [bne_iff_ne]; omega
  clear h
  go_enter Tryd.func14, Tryd.ntmps14
  go_wp2
  go_ret
  exact ⟨rfl, 0, rfl⟩

/-- cofferbook.SameBytes. -/
theorem same_any (v1 v2 : Value) (xs ys : List Int) (w : World) (h1 : View w v1 xs) (h2 : View w v2 ys) :
    Calls Tryd.prog 14 #[v1, v2] w fun e w' => e = .returned (.bool (decide (xs = ys))) ∧ ∃ m, w' = w.drewN m := by
  obtain ⟨a1, c1, rfl, hl1, hm1, _, k1⟩ := h1
  obtain ⟨a2, c2, rfl, hl2, hm2, _, k2⟩ := h2
  by_cases hl : xs.length = ys.length
  · rcases k1 with rfl | ⟨b1, o1, rfl, g1⟩
    · have : ys = [] := List.eq_nil_of_length_eq_zero (by simpa using hl.symm)
      subst this
      simpa using same_zero a1 a2 c1 c2 w
    · rcases k2 with rfl | ⟨b2, o2, rfl, g2⟩
      · have : xs = [] := List.eq_nil_of_length_eq_zero (by simpa using hl)
        subst this
        simpa using same_zero _ a2 c1 c2 w
      · rw [← hl]
        exact same_core b1 o1 b2 o2 c1 c2 xs.length xs ys w rfl hl.symm (by unfold maxLen at hm1; omega) g1 (by rw [hl]; exact g2)
  · have hne : xs ≠ ys := fun h => hl (by rw [h])
    have hd : decide (xs = ys) = false := by simpa using hne
    rw [hd]
    exact same_unlike a1 a2 _ _ c1 c2 w hl
end Go.Proofs.YtinmhgackihakaaDoor
namespace Go.Proofs.YtinmhgackihakaaDoor
/-- Numbers that are bytes. -/
def AllBytes (zs : List Int) : Prop := ∀ i, 0 ≤ zs.getD i 0 ∧ zs.getD i 0 < 256
end Go.Proofs.YtinmhgackihakaaDoor
namespace Go.Proofs.YtinmhgackihakaaDoor
open Go.RowKit

theorem Tryd.info5 : (Tryd.prog.info? 5).map (fun i => (i.zero, i.size, i.bytes)) = some (some (.int .u8 0), 1, 1) := by kernel_rfl

/-- The marks behind a copy. -/
def marks (k : Nat) : List Int := (List.range k).map fun (i : Nat) => (181 + (i : Int))
theorem marks_length (k : Nat) : (marks k).length = k := by simp [marks]
theorem marks_succ (k : Nat) : marks (k + 1) = marks k ++ [(181 + (k : Int))] := by simp [marks, List.range_succ]
/-- Bytes as cells. -/
def cellsU8 (zs : List Int) : List Value := zs.map (Value.int .u8)
theorem cellsU8_append (a b : List Int) : cellsU8 (a ++ b) = cellsU8 a ++ cellsU8 b := by simp [cellsU8]
theorem cellsU8_length (a : List Int) : (cellsU8 a).length = a.length := by simp [cellsU8]
theorem cellsU8_one (a : List Int) : ∀ u ∈ cellsU8 a, u.oneCell' = true := by
  intro u hu
  obtain ⟨_, _, rfl⟩ := List.mem_map.1 hu
  rfl
theorem cellsU8_at (a : List Int) (w : World) (b off : Nat) (h : ∀ i, i < a.length → w.cell? ⟨b, off + i, none⟩ = some (.int .u8 (a.getD i 0))) :
    ∀ j u, (cellsU8 a)[j]? = some u → w.cell? ((⟨b, off, none⟩ : Addr).add j) = some u := by
  intro j u hu
  simp only [cellsU8, List.getElem?_map, Option.map_eq_some_iff] at hu
  obtain ⟨z, hz, rfl⟩ := hu
  have hj : j < a.length := (List.getElem?_eq_some_iff.1 hz).1
  have := h j hj
  rw [List.getD_eq_getElem?_getD, hz] at this
  rw [Addr.add_lit]
  simpa using this

end Go.Proofs.YtinmhgackihakaaDoor
namespace Go.Proofs.YtinmhgackihakaaDoor
open Go.RowKit

theorem View.kept {w w' : World} {v : Value} {zs : List Int} (h : View w v zs) (hb : ∀ k, k < w.heap.size → w'.heap[k]? = w.heap[k]?) : View w' v zs := by
  obtain ⟨a, c, rfl, h1, h2, h3, h4⟩ := h
  refine ⟨a, c, rfl, h1, h2, h3, ?_⟩
  rcases h4 with h4 | ⟨b, off, rfl, hc⟩
  · exact .inl h4
  · refine .inr ⟨b, off, rfl, fun i hi => ?_⟩
    have := hc i hi
    have hlt := World.block_lt_of_cell? w _ this
    rw [World.cell?_of_block (w := w) (hb b hlt)]
    exact this

/-- A copy with marks behind it, in memory from block B on. -/
def Marked (B : Nat) (w : World) (v : Value) (zs : List Int) : Prop :=
  ∃ g c, v = .slice (some ⟨g, 0, none⟩) zs.length c ∧ w.ownsRow B 5 1 (.slice (some ⟨g, 0, none⟩) (zs.length + 70) c) (zs.length + 70) (cellsU8 (zs ++ marks 70))

theorem Marked.kept {B : Nat} {w w' : World} {v : Value} {zs : List Int} (h : Marked B w v zs) (hb : ∀ k, k < w.heap.size → w'.heap[k]? = w.heap[k]?) : Marked B w' v zs := by
  obtain ⟨g, c, rfl, hl, h⟩ := h
  refine ⟨g, c, rfl, hl, ?_⟩
  rcases h with ⟨h, _⟩ | ⟨g', c', cur, he, h1, h2, r⟩
  · cases h
  · refine .inr ⟨g', c', cur, he, h1, ?_, r⟩
    rw [hb g' (Array.getElem?_eq_some_iff.1 h2).1]
    exact h2

theorem Marked.cells {B : Nat} {w : World} {v : Value} {zs : List Int} (h : Marked B w v zs) :
    ∃ g c, v = .slice (some ⟨g, 0, none⟩) zs.length c ∧ zs.length + 70 ≤ c ∧ c ≤ maxLen ∧ (∀ i, i < zs.length → w.cell? ⟨g, i, none⟩ = some (.int .u8 (zs.getD i 0))) ∧ (∀ i, i < 70 → w.cell? ⟨g, zs.length + i, none⟩ = some (.int .u8 (181 + (i : Int)))) := by
  obtain ⟨g, c, rfl, ho⟩ := h
  have hc := ho.cells (g := g) rfl
  refine ⟨g, c, rfl, ?_, ?_, fun i hi => ?_, fun i hi => ?_⟩
  · rcases ho.2 with ⟨h, _⟩ | ⟨g', c', cur, he, _, _, h1, _⟩
    · cases h
    · cases he; exact h1
  · rcases ho.2 with ⟨h, _⟩ | ⟨g', c', cur, he, _, _, _, h1, _⟩
    · cases h
    · cases he; exact h1
  · have := hc i (.int .u8 (zs.getD i 0)) (by
      simp only [cellsU8, List.getElem?_map]
      rw [List.getElem?_append_left hi]
      simp [List.getElem?_eq_getElem hi, List.getD])
    rw [Addr.add_lit] at this
    simpa using this
  · have := hc (zs.length + i) (.int .u8 (181 + (i : Int))) (by
      simp only [cellsU8, List.getElem?_map]
      rw [List.getElem?_append_right (by omega)]
      simp [marks, hi])
    rw [Addr.add_lit] at this
    simpa using this

theorem Marked.view {B : Nat} {w : World} {v : Value} {zs : List Int} (h : Marked B w v zs) : View w v zs := by
  obtain ⟨g, c, rfl, h1, h2, h3, _⟩ := h.cells
  refine ⟨_, c, rfl, by omega, h2, ?_, Or.inr ⟨g, 0, rfl, fun i hi => by simpa using h3 i hi⟩⟩
  intro h
  cases h

end Go.Proofs.YtinmhgackihakaaDoor
namespace Go.Proofs.YtinmhgackihakaaDoor
open Go.RowKit
set_option linter.unusedVariables false

/-- The table of the cubes' roots, as a function. -/
def cubesL : List Int := [4794697086780616226, 8158064640168781261, 13096744586834688815, 16840607885511220156, 4131703408338449720, 6480981068601479193, 10538285296894168987, 12329834152419229976, 15566598209576043074, 1334009975649890238, 2608012711638119052, 6128411473006802146, 8268148722764581231, 9286055187155687089, 11230858885718282805, 13951009754708518548, 16472876342353939154, 17275323862435702243, 1135362057144423861, 2597628984639134821, 3308224258029322869, 5365058923640841347, 6679025012923562964, 8573033837759648693, 10970295158949994411, 12119686244451234320, 12683024718118986047, 13788192230050041572, 14330467153632333762, 15395433587784984357, 489312712824947311, 1452737877330783856, 2861767655752347644, 3322285676063803686, 5560940570517711597, 5996557281743188959, 7280758554555802590, 8532644243296465576, 9350256976987008742, 10552545826968843579, 11727347734174303076, 12113106623233404929, 14000437183269869457, 14369950271660146224, 15101387698204529176, 15463397548674623760, 17586052441742319658, 1182934255886127544, 1847814050463011016, 2177327727835720531, 2830643537854262169, 3796741975233480872, 4115178125766777443, 5681478168544905931, 6601373596472566643, 7507060721942968483, 8399075790359081724, 8693463985226723168, 9568029438360202098, 10144078919501101548, 10430055236837252648, 11840083180663258601, 13761210420658862357, 14299343276471374635, 14566680578165727644, 15097957966210449927, 16922976911328602910, 17689382322260857208, 500013540394364858, 748580250866718886, 1242879168328830382, 1977374033974150939, 2944078676154940804, 3659926193048069267, 4368137639120453308, 4836135668995329356, 5532061633213252278, 6448918945643986474, 6902733635092675308, 7801388544844847127]
def rootsL : List Int := [7640891576956012808, 13503953896175478587, 4354685564936845355, 11912009170470909681, 5840696475078001361, 11170449401992604703, 2270897969802886507, 6620516959819538809, 14680500436340154072, 7105036623409894663, 10473403895298186519, 1526699215303891257, 7436329637833083697, 10282925794625328401, 15784041429090275239, 5167115440072839076]
def cubeAt (t : Nat) : Int := cubesL.getD t 0
def rootAt (t : Nat) : Int := rootsL.getD t 0
/-- The two tables lie where the program laid them. -/
structure Tables (w : World) : Prop where
  cubes : ∀ t, t < 80 → w.cell? ⟨1, t, none⟩ = some (.int .u64 (cubeAt t))
  roots : ∀ t, t < 16 → w.cell? ⟨0, t, none⟩ = some (.int .u64 (rootAt t))
theorem Tables.kept {w w' : World} (h : Tables w) (hb : ∀ k, k < 2 → w'.heap[k]? = w.heap[k]?) : Tables w' :=
  ⟨fun t ht => by rw [World.cell?_of_block (w := w) (hb 1 (by omega))]; exact h.cubes t ht, fun t ht => by rw [World.cell?_of_block (w := w) (hb 0 (by omega))]; exact h.roots t ht⟩
theorem Tables.size {w : World} (h : Tables w) : 2 ≤ w.heap.size := lt_of_cell (h.cubes 0 (by omega))
theorem Tables.below {w w' : World} {B : Nat} (h : Tables w) (b : Below B w w') (hB : 2 ≤ B) : Tables w' := h.kept fun k hk => b.block k (by omega)
theorem Tables.touch {w w' : World} {g o n : Nat} (h : Tables w) (b : Touch w w' g o n) (hg : 2 ≤ g) : Tables w' := h.kept fun k hk => b.block k (by have := h.size; omega) (by omega)

def bsz (wd : Bool) : Nat := if wd then 128 else 64
def fnOf (wd : Bool) : FuncId := if wd then 85 else 84
def fnV (wd : Bool) : Value := .func (.func (fnOf wd)) #[] #[]
/-- The words behind n blocks. -/
def TT (wd : Bool) (B : Nat → Int) (s : Eight) (n : Nat) : Eight := if wd then takes64 cubeAt B s n else takes32 cubeAt B s n
theorem bsz_pos (wd : Bool) : 0 < bsz wd := by cases wd <;> decide

theorem TT_zero (wd : Bool) (B : Nat → Int) (s : Eight) : TT wd B s 0 = s := by cases wd <;> rfl
theorem sched32_congr {B B' : Nat → Int} (h : ∀ j, j < 64 → B j = B' j) : ∀ n t, t < n → t < 64 → sched32 B t = sched32 B' t
  | 0, t, h0, _ => by omega
  | n + 1, t, h0, h1 => by
    rw [sched32.eq_def B t, sched32.eq_def B' t]
    by_cases h16 : t < 16
    · rw [if_pos h16, if_pos h16]
      simp only [word32]
      rw [h (4 * t) (by omega), h (4 * t + 1) (by omega), h (4 * t + 2) (by omega), h (4 * t + 3) (by omega)]
    · rw [if_neg h16, if_neg h16, sched32_congr h n (t - 2) (by omega) (by omega), sched32_congr h n (t - 7) (by omega) (by omega), sched32_congr h n (t - 15) (by omega) (by omega), sched32_congr h n (t - 16) (by omega) (by omega)]
theorem rounds32_congr {C W W' : Nat → Int} (s : Eight) : ∀ n, (∀ t, t < n → W t = W' t) → rounds32 C W n s = rounds32 C W' n s
  | 0, _ => rfl
  | n + 1, h => by rw [rounds32, rounds32, rounds32_congr s n (fun t ht => h t (by omega)), h n (by omega)]
theorem block32_congr {C B B' : Nat → Int} (s : Eight) (h : ∀ j, j < 64 → B j = B' j) : block32 C B s = block32 C B' s := by
  rw [block32, block32, rounds32_congr _ 64 (fun t ht => sched32_congr h 64 t ht ht)]
theorem part64_congr {B B' : Nat → Int} (t : Nat) : ∀ k, (∀ j, j < k → B (8 * t + j) = B' (8 * t + j)) → part64 B t k = part64 B' t k
  | 0, _ => rfl
  | k + 1, h => by rw [part64, part64, part64_congr t k (fun j hj => h j (by omega)), h k (by omega)]
theorem sched64_congr {B B' : Nat → Int} (h : ∀ j, j < 128 → B j = B' j) : ∀ n t, t < n → t < 80 → sched64 B t = sched64 B' t
  | 0, t, h0, _ => by omega
  | n + 1, t, h0, h1 => by
    rw [sched64.eq_def B t, sched64.eq_def B' t]
    by_cases h16 : t < 16
    · rw [if_pos h16, if_pos h16, part64_congr t 8 (fun j hj => h _ (by omega))]
    · rw [if_neg h16, if_neg h16, sched64_congr h n (t - 2) (by omega) (by omega), sched64_congr h n (t - 7) (by omega) (by omega), sched64_congr h n (t - 15) (by omega) (by omega), sched64_congr h n (t - 16) (by omega) (by omega)]
theorem rounds64_congr {C W W' : Nat → Int} (s : Eight) : ∀ n, (∀ t, t < n → W t = W' t) → rounds64 C W n s = rounds64 C W' n s
  | 0, _ => rfl
  | n + 1, h => by rw [rounds64, rounds64, rounds64_congr s n (fun t ht => h t (by omega)), h n (by omega)]
theorem block64_congr {C B B' : Nat → Int} (s : Eight) (h : ∀ j, j < 128 → B j = B' j) : block64 C B s = block64 C B' s := by
  rw [block64, block64, rounds64_congr _ 80 (fun t ht => sched64_congr h 80 t ht ht)]
/-- The words hang on the blocks' bytes alone. -/
theorem TT_congr (wd : Bool) {B B' : Nat → Int} (s : Eight) : ∀ n, (∀ j, j < bsz wd * n → B j = B' j) → TT wd B s n = TT wd B' s n
  | 0, _ => by rw [TT_zero, TT_zero]
  | n + 1, h => by
    have ih := TT_congr wd s n (B := B) (B' := B') (fun j hj => h j (by rw [Nat.mul_succ]; omega))
    cases wd
    · simp only [TT, bsz, Bool.false_eq_true, if_false] at ih h ⊢
      rw [takes32, takes32, ih]
      exact block32_congr _ fun j hj => h _ (by omega)
    · simp only [TT, bsz, if_true] at ih h ⊢
      rw [takes64, takes64, ih]
      exact block64_congr _ fun j hj => h _ (by omega)
/-- Blocks behind blocks. -/
theorem TT_add (wd : Bool) (B : Nat → Int) (s : Eight) (i : Nat) : ∀ j, TT wd B s (i + j) = TT wd (fun k => B (bsz wd * i + k)) (TT wd B s i) j
  | 0 => by rw [TT_zero]; rfl
  | j + 1 => by
    have ih := TT_add wd B s i j
    cases wd
    · simp only [TT, bsz, Bool.false_eq_true, if_false] at ih ⊢
      rw [← Nat.add_assoc, takes32, takes32, ← ih]
      exact block32_congr _ fun k hk => by rw [Nat.mul_add, Nat.add_assoc]
    · simp only [TT, bsz, if_true] at ih ⊢
      rw [← Nat.add_assoc, takes64, takes64, ← ih]
      exact block64_congr _ fun k hk => by rw [Nat.mul_add, Nat.add_assoc]

set_option maxHeartbeats 400000 in
theorem narrow_zero (a : Value) (p : Option Addr) (cap : Nat) (w : World) :
    Calls Tryd.prog 84 #[a, .slice p 0 cap] w fun e w' => e = .returned (.tuple #[]) ∧ Below w.heap.size w w' := by
  have hb : Hid (∀ o, Below w.heap.size w (w.alloc o)) := fun o => (Below.refl _ _).alloc (Nat.le_refl _) o
  go_enter Tryd.func84, Tryd.ntmps84
  go_wp2
  go_loop [1] (fun v => v = .slice p 0 cap) (fun _ => 0)
  case atStart => exact rfl
  case round =>
    obtain rfl := hrel
    go_wp2
    go_end0
    exact ⟨rfl, hb.out _⟩
set_option maxHeartbeats 400000 in
theorem wide_zero (a : Value) (p : Option Addr) (cap : Nat) (w : World) :
    Calls Tryd.prog 85 #[a, .slice p 0 cap] w fun e w' => e = .returned (.tuple #[]) ∧ Below w.heap.size w w' := by
  have hb : Hid (∀ o, Below w.heap.size w (w.alloc o)) := fun o => (Below.refl _ _).alloc (Nat.le_refl _) o
  go_enter Tryd.func85, Tryd.ntmps85
  go_wp2
  go_loop [1] (fun v => v = .slice p 0 cap) (fun _ => 0)
  case atStart => exact rfl
  case round =>
    obtain rfl := hrel
    go_wp2
    go_end0
    exact ⟨rfl, hb.out _⟩

/-- A slice of bytes that lies apart from n cells of block g from o on. -/
def Apart (v : Value) (g o n : Nat) : Prop := ∀ b off l c, v = .slice (some ⟨b, off, none⟩) l c → b ≠ g ∨ off + l ≤ o ∨ o + n ≤ off
theorem range_below {w w' : World} {g o : Nat} {cs : List Value} (h : w.rangeAt g o cs) (b : Below w.heap.size w w') (hg : g < w.heap.size) : w'.rangeAt g o cs := fun j v hv => by
  rw [b.cell (p := ⟨g, o + j, none⟩) hg]
  exact h j v hv

/-- narrow, wide: the words behind a slice's blocks. -/
theorem take_any (wd : Bool) (g o : Nat) (v : Value) (zs : List Int) (s : Eight) (w : World) (hg : g < w.heap.size) (hr : w.rangeAt g o s.cells) (ht : w.there g o 8) (hv : View w v zs) (hsep : Apart v g o 8) (hT : Tables w) (hg3 : 2 ≤ g) :
    Calls Tryd.prog (fnOf wd) #[.pointer (some ⟨g, o, none⟩), v] w fun e w' => e = .returned (.tuple #[]) ∧ Touch w w' g o 8 ∧ w'.rangeAt g o (TT wd (fun i => zs.getD i 0) s (zs.length / bsz wd)).cells := by
  obtain ⟨a, cap, rfl, h1, h2, h3, h4⟩ := hv
  rcases h4 with rfl | ⟨b, p, rfl, hc⟩
  · cases wd
    · refine (narrow_zero _ a cap w).mono ?_
      rintro e w' ⟨rfl, hb⟩
      exact ⟨rfl, (Touch.refl _ _ _ _).below hb hg, range_below hr hb hg⟩
    · refine (wide_zero _ a cap w).mono ?_
      rintro e w' ⟨rfl, hb⟩
      exact ⟨rfl, (Touch.refl _ _ _ _).below hb hg, range_below hr hb hg⟩
  · have hs := hsep _ _ _ _ rfl
    cases wd
    · exact narrow_walk g o b p zs.length cap s cubeAt (fun i => zs.getD i 0) w hg h1 h2 hr ht hc hs (fun t ht => hT.cubes t (by omega)) (by omega)
    · exact wide_walk g o b p zs.length cap s cubeAt (fun i => zs.getD i 0) w hg h1 h2 hr ht hc hs hT.cubes (by omega)
end Go.Proofs.YtinmhgackihakaaDoor
