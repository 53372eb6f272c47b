import Derived.Test.YtbpkocohddlbhaaDoorPart03
import Derived.Deep.RegionHeld3
import Derived.Deep.QuietTactic
import Derived.BigQuiet
import Derived.BigRegion
import Derived.Test.YtbpkocohddlbhaaDoorProg
import Derived.WalkKit
import Derived.Deep.Draws
import Derived.Laws.BitsAllLaws
import Derived.Laws.AppendOwnNone
import Derived.Deep.DeepMust
namespace Go.Proofs.YtbpkocohddlbhaaDoor
open Go.RowKit
set_option linter.unusedVariables false

def t1_64 (s : Eight) (kc wv : Int) : Int := (s.k + (bits .xor .u64 (bits .xor .u64 (rotl64 s.e 50) (rotl64 s.e 46)) (rotl64 s.e 23)) + (bits .xor .u64 (bits .and .u64 s.e s.f) (bits .and .u64 (bits .xor .u64 (if IntKind.u64.signed = true then -1 else IntKind.u64.max) s.e) s.g)) + kc + wv) % 18446744073709551616
def t2_64 (s : Eight) : Int := ((bits .xor .u64 (bits .xor .u64 (rotl64 s.a 36) (rotl64 s.a 30)) (rotl64 s.a 25)) + (bits .xor .u64 (bits .xor .u64 (bits .and .u64 s.a s.b) (bits .and .u64 s.a s.c)) (bits .and .u64 s.b s.c))) % 18446744073709551616
def round64 (s : Eight) (kc wv : Int) : Eight := ⟨(t1_64 s kc wv + t2_64 s) % 18446744073709551616, s.a, s.b, s.c, (s.d + t1_64 s kc wv) % 18446744073709551616, s.e, s.f, s.g⟩
def rounds64 (C W : Nat → Int) : Nat → Eight → Eight
  | 0, s => s
  | t + 1, s => round64 (rounds64 C W t s) (C t) (W t)

set_option maxHeartbeats 3200000 in
set_option maxRecDepth 100000 in
theorem rounds64_walk (g o wb : Nat) (h0 h1 h2 h3 h4 h5 h6 h7 : Int) (W C : Nat → Int) (w : World)
    (hr : w.rangeAt g o (Eight.cells ⟨h0, h1, h2, h3, h4, h5, h6, h7⟩)) (ht : w.there g o 8)
    (hW : ∀ t, t < 80 → w.cell? ⟨wb, t, none⟩ = some (.int .u64 (W t)))
    (hC : ∀ t, t < 80 → w.cell? ⟨3, t, none⟩ = some (.int .u64 (C t))) :
    Calls Tryd.prog 90 #[.pointer (some ⟨g, o, none⟩), .pointer (some ⟨wb, 0, none⟩)] w fun e w' => e = .returned (.tuple #[]) ∧ Touch w w' g o 8 ∧ w'.rangeAt g o (Eight.cells (Eight.zip (fun h x => (h + x) % 18446744073709551616) ⟨h0, h1, h2, h3, h4, h5, h6, h7⟩ (rounds64 C W 80 ⟨h0, h1, h2, h3, h4, h5, h6, h7⟩))) := by
  have HW : Hid (∀ t, t < 80 → w.cell? ⟨wb, t, none⟩ = some (.int .u64 (W t))) := hW
  have HC : Hid (∀ t, t < 80 → w.cell? ⟨3, t, none⟩ = some (.int .u64 (C t))) := hC
  have HR : Hid (w.rangeAt g o (Eight.cells ⟨h0, h1, h2, h3, h4, h5, h6, h7⟩)) := hr
  have HT : Hid (w.there g o 8) := ht
  have c0 : w.cell? ⟨g, o, none⟩ = some (.int .u64 h0) := hr 0 _ rfl
  have c1 : w.cell? ⟨g, o + 1, none⟩ = some (.int .u64 h1) := hr 1 _ rfl
  have c2 : w.cell? ⟨g, o + 2, none⟩ = some (.int .u64 h2) := hr 2 _ rfl
  have c3 : w.cell? ⟨g, o + 3, none⟩ = some (.int .u64 h3) := hr 3 _ rfl
  have c4 : w.cell? ⟨g, o + 4, none⟩ = some (.int .u64 h4) := hr 4 _ rfl
  have c5 : w.cell? ⟨g, o + 5, none⟩ = some (.int .u64 h5) := hr 5 _ rfl
  have c6 : w.cell? ⟨g, o + 6, none⟩ = some (.int .u64 h6) := hr 6 _ rfl
  have c7 : w.cell? ⟨g, o + 7, none⟩ = some (.int .u64 h7) := hr 7 _ rfl
  clear hW hC hr ht
  go_enter Tryd.func90, Tryd.ntmps90
  go_wp2
  go_quiet (fail)
  go_wp2
  go_quiet (fail)
  clear c0 c1 c2 c3 c4 c5 c6 c7
  go_wp2
  go_loopw [4, 5, 6, 7, 8, 9, 10, 11, 51] (fun va vb vc vd ve vf vg vk i wr => ∃ t : Nat, ∃ s : Eight, t ≤ 80 ∧ i = .int .i64 t ∧ va = .int .u64 s.a ∧ vb = .int .u64 s.b ∧ vc = .int .u64 s.c ∧ vd = .int .u64 s.d ∧ ve = .int .u64 s.e ∧ vf = .int .u64 s.f ∧ vg = .int .u64 s.g ∧ vk = .int .u64 s.k ∧ Hid (s = rounds64 C W t ⟨h0, h1, h2, h3, h4, h5, h6, h7⟩) ∧ Hid (Sm w wr)) (fun _ _ _ _ _ _ _ _ i _ => 80 - (intOf i).toNat)
  case atStart => exact ⟨0, ⟨h0, h1, h2, h3, h4, h5, h6, h7⟩, by omega, rfl, rfl, rfl, rfl, rfl, rfl, rfl, rfl, rfl, rfl, ((Sm.refl w).drewN _).drewN _⟩
  case round =>
    obtain ⟨t, ⟨a, b, c, d, e, f, g1, k⟩, ht, rfl, rfl, rfl, rfl, rfl, rfl, rfl, rfl, rfl, HS, HM⟩ := hrel
    by_cases hlt : t < 80
    · have hw : wr.cell? ⟨wb, t, none⟩ = some (.int .u64 (W t)) := by rw [HM.out.cell]; exact HW.out t hlt
      have hc : wr.cell? ⟨3, t, none⟩ = some (.int .u64 (C t)) := by rw [HM.out.cell]; exact HC.out t hlt
      go_wp2_with (first | (go_at_call 89; (first | refine (rot64_of 14 (by decide +kernel)).mono ?_ | refine (rot64_of 18 (by decide +kernel)).mono ?_ | refine (rot64_of 41 (by decide +kernel)).mono ?_ | refine (rot64_of 28 (by decide +kernel)).mono ?_ | refine (rot64_of 34 (by decide +kernel)).mono ?_ | refine (rot64_of 39 (by decide +kernel)).mono ?_); (rintro e1 w1 ⟨rfl, hw1⟩; obtain rfl := hw1.symm)))
      go_quiet (fail)
      go_wp2_with (first | (go_at_call 89; (first | refine (rot64_of 14 (by decide +kernel)).mono ?_ | refine (rot64_of 18 (by decide +kernel)).mono ?_ | refine (rot64_of 41 (by decide +kernel)).mono ?_ | refine (rot64_of 28 (by decide +kernel)).mono ?_ | refine (rot64_of 34 (by decide +kernel)).mono ?_ | refine (rot64_of 39 (by decide +kernel)).mono ?_); (rintro e1 w1 ⟨rfl, hw1⟩; obtain rfl := hw1.symm)))
      go_roundw
      case rel =>
        refine ⟨t + 1, round64 ⟨a, b, c, d, e, f, g1, k⟩ (C t) (W t), by omega, by go_num, (val_eqD (by simp only [round64, t1_64, t2_64, IntKind.wrap_u64, Int.emod_add_emod, Int.add_emod_emod])), rfl, rfl, rfl, (val_eqD (by simp only [round64, t1_64, t2_64, IntKind.wrap_u64, Int.emod_add_emod, Int.add_emod_emod])), rfl, rfl, rfl, ?_, HM.out.drewN _⟩
        have := HS.out
        rw [this]
        exact rfl
      case measure => simp [intOf]; omega
    · obtain rfl : t = 80 := by omega
      clear hlt ht HW HC
      have HE : Hid (Eight.zip (fun h x => (h + x) % 18446744073709551616) ⟨h0, h1, h2, h3, h4, h5, h6, h7⟩ (rounds64 C W 80 ⟨h0, h1, h2, h3, h4, h5, h6, h7⟩) = ⟨((h0 + a) % 18446744073709551616), ((h1 + b) % 18446744073709551616), ((h2 + c) % 18446744073709551616), ((h3 + d) % 18446744073709551616), ((h4 + e) % 18446744073709551616), ((h5 + f) % 18446744073709551616), ((h6 + g1) % 18446744073709551616), ((h7 + k) % 18446744073709551616)⟩) := by
        rw [← HS.out]
        exact rfl
      clear HS
      go_wp2
      go_loopw [127] (fun i wr => ∃ q : Nat, q ≤ 8 ∧ i = .int .i64 q ∧ Hid (Touch w wr g o 8) ∧ Hid (wr.rangeAt g o ((Eight.cells ⟨((h0 + a) % 18446744073709551616), ((h1 + b) % 18446744073709551616), ((h2 + c) % 18446744073709551616), ((h3 + d) % 18446744073709551616), ((h4 + e) % 18446744073709551616), ((h5 + f) % 18446744073709551616), ((h6 + g1) % 18446744073709551616), ((h7 + k) % 18446744073709551616)⟩).take q ++ (Eight.cells ⟨h0, h1, h2, h3, h4, h5, h6, h7⟩).drop q))) (fun i _ => 8 - (intOf i).toNat)
      case atStart => exact ⟨0, by omega, rfl, HM.out.touch _ _ _, fun j v hv => by rw [HM.out.cell]; exact HR.out j v hv⟩
      case round =>
        obtain ⟨q, hq, rfl, HT1, HR1⟩ := hrel
        have hq9 : q = 0 ∨ q = 1 ∨ q = 2 ∨ q = 3 ∨ q = 4 ∨ q = 5 ∨ q = 6 ∨ q = 7 ∨ q = 8 := by omega
        clear hq HM
        rcases hq9 with rfl | rfl | rfl | rfl | rfl | rfl | rfl | rfl | rfl
        · have hcell : wr.cell? ⟨g, o, none⟩ = some (.int .u64 h0) := HR1.out 0 _ rfl
          have hfr : wr.frozen? ⟨g, o, none⟩ = false := ((HT1.out.there _ _ HT.out) 0 (by omega)).2
          have hrun : Sem.run Tryd.prog (Instr.index 66 (.agg #[.int .u64 a, .int .u64 b, .int .u64 c, .int .u64 d, .int .u64 e, .int .u64 f, .int .u64 g1, .int .u64 k]) (.int .i64 0)) wr = .ok (.int .u64 a) wr := by kernel_rfl
          go_wp2
          go_region
          go_wp2
          go_roundw
          case rel =>
            refine ⟨1, by omega, rfl, ?_, ?_⟩
            · exact (HT1.out.setCell (o) _ (by omega) (by omega)).drew
            · exact (World.rangeAt_drew _ _ _ _).2 (step_cells (q := 0) HR1.out (HT1.out.there _ _ HT.out) (by omega) _ (by rw [IntKind.wrap_u64]; exact rfl))
          case measure => simp [intOf]
        · have hcell : wr.cell? ⟨g, o + 1, none⟩ = some (.int .u64 h1) := HR1.out 1 _ rfl
          have hfr : wr.frozen? ⟨g, o + 1, none⟩ = false := ((HT1.out.there _ _ HT.out) 1 (by omega)).2
          have hrun : Sem.run Tryd.prog (Instr.index 66 (.agg #[.int .u64 a, .int .u64 b, .int .u64 c, .int .u64 d, .int .u64 e, .int .u64 f, .int .u64 g1, .int .u64 k]) (.int .i64 1)) wr = .ok (.int .u64 b) wr := by kernel_rfl
          go_wp2
          go_region
          go_wp2
          go_roundw
          case rel =>
            refine ⟨2, by omega, rfl, ?_, ?_⟩
            · exact (HT1.out.setCell (o + 1) _ (by omega) (by omega)).drew
            · exact (World.rangeAt_drew _ _ _ _).2 (step_cells (q := 1) HR1.out (HT1.out.there _ _ HT.out) (by omega) _ (by rw [IntKind.wrap_u64]; exact rfl))
          case measure => simp [intOf]
        · have hcell : wr.cell? ⟨g, o + 2, none⟩ = some (.int .u64 h2) := HR1.out 2 _ rfl
          have hfr : wr.frozen? ⟨g, o + 2, none⟩ = false := ((HT1.out.there _ _ HT.out) 2 (by omega)).2
          have hrun : Sem.run Tryd.prog (Instr.index 66 (.agg #[.int .u64 a, .int .u64 b, .int .u64 c, .int .u64 d, .int .u64 e, .int .u64 f, .int .u64 g1, .int .u64 k]) (.int .i64 2)) wr = .ok (.int .u64 c) wr := by kernel_rfl
          go_wp2
          go_region
          go_wp2
          go_roundw
          case rel =>
            refine ⟨3, by omega, rfl, ?_, ?_⟩
            · exact (HT1.out.setCell (o + 2) _ (by omega) (by omega)).drew
            · exact (World.rangeAt_drew _ _ _ _).2 (step_cells (q := 2) HR1.out (HT1.out.there _ _ HT.out) (by omega) _ (by rw [IntKind.wrap_u64]; exact rfl))
          case measure => simp [intOf]
        · have hcell : wr.cell? ⟨g, o + 3, none⟩ = some (.int .u64 h3) := HR1.out 3 _ rfl
          have hfr : wr.frozen? ⟨g, o + 3, none⟩ = false := ((HT1.out.there _ _ HT.out) 3 (by omega)).2
          have hrun : Sem.run Tryd.prog (Instr.index 66 (.agg #[.int .u64 a, .int .u64 b, .int .u64 c, .int .u64 d, .int .u64 e, .int .u64 f, .int .u64 g1, .int .u64 k]) (.int .i64 3)) wr = .ok (.int .u64 d) wr := by kernel_rfl
          go_wp2
          go_region
          go_wp2
          go_roundw
          case rel =>
            refine ⟨4, by omega, rfl, ?_, ?_⟩
            · exact (HT1.out.setCell (o + 3) _ (by omega) (by omega)).drew
            · exact (World.rangeAt_drew _ _ _ _).2 (step_cells (q := 3) HR1.out (HT1.out.there _ _ HT.out) (by omega) _ (by rw [IntKind.wrap_u64]; exact rfl))
          case measure => simp [intOf]
        · have hcell : wr.cell? ⟨g, o + 4, none⟩ = some (.int .u64 h4) := HR1.out 4 _ rfl
          have hfr : wr.frozen? ⟨g, o + 4, none⟩ = false := ((HT1.out.there _ _ HT.out) 4 (by omega)).2
          have hrun : Sem.run Tryd.prog (Instr.index 66 (.agg #[.int .u64 a, .int .u64 b, .int .u64 c, .int .u64 d, .int .u64 e, .int .u64 f, .int .u64 g1, .int .u64 k]) (.int .i64 4)) wr = .ok (.int .u64 e) wr := by kernel_rfl
          go_wp2
          go_region
          go_wp2
          go_roundw
          case rel =>
            refine ⟨5, by omega, rfl, ?_, ?_⟩
            · exact (HT1.out.setCell (o + 4) _ (by omega) (by omega)).drew
            · exact (World.rangeAt_drew _ _ _ _).2 (step_cells (q := 4) HR1.out (HT1.out.there _ _ HT.out) (by omega) _ (by rw [IntKind.wrap_u64]; exact rfl))
          case measure => simp [intOf]
        · have hcell : wr.cell? ⟨g, o + 5, none⟩ = some (.int .u64 h5) := HR1.out 5 _ rfl
          have hfr : wr.frozen? ⟨g, o + 5, none⟩ = false := ((HT1.out.there _ _ HT.out) 5 (by omega)).2
          have hrun : Sem.run Tryd.prog (Instr.index 66 (.agg #[.int .u64 a, .int .u64 b, .int .u64 c, .int .u64 d, .int .u64 e, .int .u64 f, .int .u64 g1, .int .u64 k]) (.int .i64 5)) wr = .ok (.int .u64 f) wr := by kernel_rfl
          go_wp2
          go_region
          go_wp2
          go_roundw
          case rel =>
            refine ⟨6, by omega, rfl, ?_, ?_⟩
            · exact (HT1.out.setCell (o + 5) _ (by omega) (by omega)).drew
            · exact (World.rangeAt_drew _ _ _ _).2 (step_cells (q := 5) HR1.out (HT1.out.there _ _ HT.out) (by omega) _ (by rw [IntKind.wrap_u64]; exact rfl))
          case measure => simp [intOf]
        · have hcell : wr.cell? ⟨g, o + 6, none⟩ = some (.int .u64 h6) := HR1.out 6 _ rfl
          have hfr : wr.frozen? ⟨g, o + 6, none⟩ = false := ((HT1.out.there _ _ HT.out) 6 (by omega)).2
          have hrun : Sem.run Tryd.prog (Instr.index 66 (.agg #[.int .u64 a, .int .u64 b, .int .u64 c, .int .u64 d, .int .u64 e, .int .u64 f, .int .u64 g1, .int .u64 k]) (.int .i64 6)) wr = .ok (.int .u64 g1) wr := by kernel_rfl
          go_wp2
          go_region
          go_wp2
          go_roundw
          case rel =>
            refine ⟨7, by omega, rfl, ?_, ?_⟩
            · exact (HT1.out.setCell (o + 6) _ (by omega) (by omega)).drew
            · exact (World.rangeAt_drew _ _ _ _).2 (step_cells (q := 6) HR1.out (HT1.out.there _ _ HT.out) (by omega) _ (by rw [IntKind.wrap_u64]; exact rfl))
          case measure => simp [intOf]
        · have hcell : wr.cell? ⟨g, o + 7, none⟩ = some (.int .u64 h7) := HR1.out 7 _ rfl
          have hfr : wr.frozen? ⟨g, o + 7, none⟩ = false := ((HT1.out.there _ _ HT.out) 7 (by omega)).2
          have hrun : Sem.run Tryd.prog (Instr.index 66 (.agg #[.int .u64 a, .int .u64 b, .int .u64 c, .int .u64 d, .int .u64 e, .int .u64 f, .int .u64 g1, .int .u64 k]) (.int .i64 7)) wr = .ok (.int .u64 k) wr := by kernel_rfl
          go_wp2
          go_region
          go_wp2
          go_roundw
          case rel =>
            refine ⟨8, by omega, rfl, ?_, ?_⟩
            · exact (HT1.out.setCell (o + 7) _ (by omega) (by omega)).drew
            · exact (World.rangeAt_drew _ _ _ _).2 (step_cells (q := 7) HR1.out (HT1.out.there _ _ HT.out) (by omega) _ (by rw [IntKind.wrap_u64]; exact rfl))
          case measure => simp [intOf]
        · go_wp2
          go_end0
          refine ⟨rfl, HT1.out, ?_⟩
          rw [HE.out]
          exact HR1.out
end Go.Proofs.YtbpkocohddlbhaaDoor
namespace Go.Proofs.YtbpkocohddlbhaaDoor
open Go.RowKit
set_option linter.unusedVariables false
theorem fill_stepP {w : World} {k t N : Nat} {F : Nat → Value} (h : ∀ j, j < t → w.cell? ⟨k, j, none⟩ = some (F j)) (ht : w.there k 0 N) (htN : t < N) (u : Value) (hu : u = F t) :
    (∀ j, j < t + 1 → (w.setCell ⟨k, t, none⟩ u).cell? ⟨k, j, none⟩ = some (F j)) ∧ (w.setCell ⟨k, t, none⟩ u).there k 0 N := fill_step h ht htN u hu
theorem range_farP {w : World} {g o k t : Nat} {cs : List Value} (h : w.rangeAt g o cs) (u : Value) (hne : g ≠ k) : (w.setCell ⟨k, t, none⟩ u).rangeAt g o cs :=
  World.rangeAt_setCells_apart h k t [u] (.inl hne)

/-- A word of a block of 128 bytes, as far as its first k bytes; the words that follow. -/
def part64 (B : Nat → Int) (t : Nat) : Nat → Int
  | 0 => 0
  | k + 1 => bits .or .u64 (part64 B t k * 256 % 18446744073709551616) (B (8 * t + k) % 18446744073709551616)
def lo1_64 (x : Int) : Int := bits .xor .u64 (bits .xor .u64 (rotl64 x 45) (rotl64 x 3)) (x / 64)
def lo0_64 (x : Int) : Int := bits .xor .u64 (bits .xor .u64 (rotl64 x 63) (rotl64 x 56)) (x / 128)
def sched64 (B : Nat → Int) (t : Nat) : Int :=
  if t < 16 then part64 B t 8 else (lo1_64 (sched64 B (t - 2)) + sched64 B (t - 7) + lo0_64 (sched64 B (t - 15)) + sched64 B (t - 16)) % 18446744073709551616
termination_by t
decreasing_by all_goals omega
def block64 (C B : Nat → Int) (s : Eight) : Eight := Eight.zip (fun h x => (h + x) % 18446744073709551616) s (rounds64 C (sched64 B) 80 s)
def takes64 (C B : Nat → Int) (s : Eight) : Nat → Eight
  | 0 => s
  | i + 1 => block64 C (fun j => B (128 * i + j)) (takes64 C B s i)

set_option maxHeartbeats 6400000 in
set_option maxRecDepth 100000 in
theorem wide_walk (g o b p n cap : Nat) (s : Eight) (C B : Nat → Int) (w : World) (hg : g < w.heap.size) (hcap : n ≤ cap) (hcm : cap ≤ maxLen)
    (hr : w.rangeAt g o s.cells) (ht : w.there g o 8)
    (hB : ∀ i, i < n → w.cell? ⟨b, p + i, none⟩ = some (.int .u8 (B i)))
    (hsep : b ≠ g ∨ p + n ≤ o ∨ o + 8 ≤ p)
    (hC : ∀ t, t < 80 → w.cell? ⟨3, t, none⟩ = some (.int .u64 (C t))) (hg3 : 3 ≠ g) :
    Calls Tryd.prog 81 #[.pointer (some ⟨g, o, none⟩), .slice (some ⟨b, p, none⟩) n cap] w fun e w' => e = .returned (.tuple #[]) ∧ Touch w w' g o 8 ∧ w'.rangeAt g o (takes64 C B s (n / 128)).cells := by
  have HR : Hid (w.rangeAt g o s.cells) := hr
  have HT : Hid (w.there g o 8) := ht
  have HB : Hid (∀ i, i < n → w.cell? ⟨b, p + i, none⟩ = some (.int .u8 (B i))) := hB
  have HC : Hid (∀ t, t < 80 → w.cell? ⟨3, t, none⟩ = some (.int .u64 (C t))) := hC
  have HS : Hid (b ≠ g ∨ p + n ≤ o ∨ o + 8 ≤ p) := hsep
  have hcm' : cap ≤ 9223372036854775807 := by unfold maxLen at hcm; omega
  clear hr ht hB hC hcm hsep
  go_enter Tryd.func81, Tryd.ntmps81
  go_wp2
  go_loopw [1] (fun v wr => ∃ i q : Nat, 128 * i ≤ n ∧ (n = 128 * i ∨ q = p + 128 * i) ∧ v = .slice (some ⟨b, q, none⟩) (n - 128 * i) (cap - 128 * i) ∧ Hid (Touch w wr g o 8) ∧ Hid (wr.there w.heap.size 0 80 ∧ w.heap.size < wr.heap.size) ∧ Hid (wr.rangeAt g o (takes64 C B s i).cells)) (fun v _ => lenOf v)
  case atStart => exact ⟨0, p, by omega, .inr (by omega), rfl, (Touch.refl _ _ _ _).alloc _ hg, ⟨there_new w _ 91 80 (by decide), by simp⟩, World.rangeAt_alloc HR.out _⟩
  case round =>
    obtain ⟨i, q, hi, hq0, rfl, HT1, HN1, HR1⟩ := hrel
    by_cases hlt : 128 ≤ n - 128 * i
    · have hq : q = p + 128 * i := by omega
      obtain ⟨m, hm⟩ : ∃ m, m = n - 128 * i := ⟨_, rfl⟩
      obtain ⟨c, hc⟩ : ∃ c, c = cap - 128 * i := ⟨_, rfl⟩
      have hmc : m ≤ c := by omega
      have hcc : c ≤ 9223372036854775807 := by omega
      rw [← hm, ← hc]
      rw [← hm] at hlt
      have HQ : Hid (q = p + 128 * i ∧ m = n - 128 * i ∧ c = cap - 128 * i) := ⟨hq, hm, hc⟩
      have HBq : Hid (∀ j, j < 128 → w.cell? ⟨b, q + j, none⟩ = some (.int .u8 (B (128 * i + j)))) := fun j hj => by
        have := HB.out (128 * i + j) (by omega)
        rw [← Nat.add_assoc, ← hq] at this
        exact this
      have HSq : Hid (b ≠ g ∨ q + 128 ≤ o ∨ o + 8 ≤ q) := by rcases HS.out with h | h; exact .inl h; exact .inr (by omega)
      clear hq hm hc hq0
      go_wp2
      rw [show decide ((128 : Int) ≤ (m : Int)) = true by simp; omega]
      go_loopw [19] (fun v wr => ∃ t : Nat, t ≤ 16 ∧ v = .int .i64 t ∧ Hid (Touch w wr g o 8) ∧ Hid (wr.there w.heap.size 0 80 ∧ w.heap.size < wr.heap.size) ∧ Hid (wr.rangeAt g o (takes64 C B s i).cells) ∧ Hid (∀ j, j < t → wr.cell? ⟨w.heap.size, j, none⟩ = some (.int .u64 (sched64 (fun j => B (128 * i + j)) j)))) (fun v _ => 16 - (intOf v).toNat)
      case atStart => exact ⟨0, by omega, rfl, HT1, HN1, HR1, fun j hj => by omega⟩
      case round =>
        obtain ⟨t, ht, rfl, HT2, HN2, HR2, HF2⟩ := hrel
        clear HT1 HN1 HR1
        by_cases h16 : t < 16
        · have fw : wr.frozen? ⟨w.heap.size, t, none⟩ = false := by simpa using (HN2.out.1 t (by omega)).2
          obtain ⟨u, fu⟩ : ∃ u, wr.cell? ⟨w.heap.size, t, none⟩ = some u := by simpa [Option.isSome_iff_exists] using (HN2.out.1 t (by omega)).1
          go_wp2
          go_loop [6, 30] (fun x v => ∃ k : Nat, k ≤ 8 ∧ v = .int .i64 k ∧ x = .int .u64 (part64 (fun j => B (128 * i + j)) t k)) (fun _ v => 8 - (intOf v).toNat)
          case atStart => exact ⟨0, by omega, rfl, rfl⟩
          case round =>
            obtain ⟨k, hk, rfl, rfl⟩ := hrel
            by_cases h8 : k < 8
            · have f0 : wr.cell? ⟨b, q + 8 * t + k, none⟩ = some (.int .u8 (B (128 * i + (8 * t + k)))) := HT2.out.outside (by have := HBq.out (8 * t + k) (by omega); rw [← Nat.add_assoc] at this; exact this) (by rcases HSq.out with h | h; exact .inl h; exact .inr (by omega))
              go_wp2
              go_round
              case rel => exact ⟨k + 1, by omega, by go_num, val_eqD (by rw [IntKind.wrap_u64, IntKind.wrap_u64]; exact rfl)⟩
              case measure => simp [intOf]; omega
            · obtain rfl : k = 8 := by omega
              go_wp2
              go_roundw
              case rel =>
                have hfill := fill_stepP (F := fun j => .int .u64 (sched64 (fun j => B (128 * i + j)) j)) HF2.out HN2.out.1 (show t < 80 by omega) (.int .u64 (part64 (fun j => B (128 * i + j)) t 8)) (by rw [sched64, if_pos h16])
                exact ⟨t + 1, by omega, by go_num, HT2.out.setNew w.heap.size t _ (Nat.le_refl _) hg, ⟨hfill.2, by simpa using HN2.out.2⟩, range_farP HR2.out _ (by omega), hfill.1⟩
              case measure => simp [intOf]; omega
        · obtain rfl : t = 16 := by omega
          clear h16 ht HBq HSq
          go_wp2
          rw [show ((16 : Nat) : Int) = 16 from rfl]
          go_loopw [9] (fun v wr => ∃ t : Nat, t ≤ 64 ∧ v = .int .i64 (16 + (t : Int)) ∧ Hid (Touch w wr g o 8) ∧ Hid (wr.there w.heap.size 0 80 ∧ w.heap.size < wr.heap.size) ∧ Hid (wr.rangeAt g o (takes64 C B s i).cells) ∧ Hid (∀ j, j < 16 + t → wr.cell? ⟨w.heap.size, j, none⟩ = some (.int .u64 (sched64 (fun j => B (128 * i + j)) j)))) (fun v _ => 80 - (intOf v).toNat)
          case atStart => exact ⟨0, by omega, rfl, HT2, HN2, HR2, HF2⟩
          case round =>
            obtain ⟨t, ht, rfl, HT3, HN3, HR3, HF3⟩ := hrel
            clear HT2 HN2 HR2 HF2
            by_cases h48 : t < 64
            · have f2 : wr.cell? ⟨w.heap.size, t + 14, none⟩ = some (.int .u64 (sched64 (fun j => B (128 * i + j)) (t + 14))) := HF3.out _ (by omega)
              have f15 : wr.cell? ⟨w.heap.size, t + 1, none⟩ = some (.int .u64 (sched64 (fun j => B (128 * i + j)) (t + 1))) := HF3.out _ (by omega)
              have f7 : wr.cell? ⟨w.heap.size, t + 9, none⟩ = some (.int .u64 (sched64 (fun j => B (128 * i + j)) (t + 9))) := HF3.out _ (by omega)
              have f16 : wr.cell? ⟨w.heap.size, t, none⟩ = some (.int .u64 (sched64 (fun j => B (128 * i + j)) t)) := HF3.out _ (by omega)
              have fw : wr.frozen? ⟨w.heap.size, t + 16, none⟩ = false := by simpa using (HN3.out.1 (t + 16) (by omega)).2
              obtain ⟨u, fu⟩ : ∃ u, wr.cell? ⟨w.heap.size, t + 16, none⟩ = some u := by simpa [Option.isSome_iff_exists] using (HN3.out.1 (t + 16) (by omega)).1
              have e2 : (16 + (t : Int) - 2).toNat = t + 14 := by omega
              have e15 : (16 + (t : Int) - 15).toNat = t + 1 := by omega
              have e7 : (16 + (t : Int) - 7).toNat = t + 9 := by omega
              have e16 : (16 + (t : Int) - 16).toNat = t := by omega
              have e0 : (16 + (t : Int)).toNat = t + 16 := by omega
              go_wp2
              go_quiet (fail)
              go_wp2_with (first | (go_at_call 89; (first | refine (rot64_of 19 (by decide +kernel)).mono ?_ | refine (rot64_of 61 (by decide +kernel)).mono ?_ | refine (rot64_of 1 (by decide +kernel)).mono ?_ | refine (rot64_of 8 (by decide +kernel)).mono ?_); (rintro e1 w1 ⟨rfl, hw1⟩; obtain rfl := hw1.symm)))
              go_region
              go_wp2
              go_roundw
              case rel =>
                have hv : sched64 (fun j => B (128 * i + j)) (t + 16) = (lo1_64 (sched64 (fun j => B (128 * i + j)) (t + 14)) + sched64 (fun j => B (128 * i + j)) (t + 9) + lo0_64 (sched64 (fun j => B (128 * i + j)) (t + 1)) + sched64 (fun j => B (128 * i + j)) t) % 18446744073709551616 := by
                  rw [sched64, if_neg (by omega)]
                  rw [show t + 16 - 2 = t + 14 by omega, show t + 16 - 7 = t + 9 by omega, show t + 16 - 15 = t + 1 by omega, show t + 16 - 16 = t by omega]
                have hF : ∀ j, j < t + 16 → wr.cell? ⟨w.heap.size, j, none⟩ = some (.int .u64 (sched64 (fun j => B (128 * i + j)) j)) := fun j hj => HF3.out j (by omega)
                have hfill := fill_step (w := wr.drewN nq) (F := fun j => .int .u64 (sched64 (fun j => B (128 * i + j)) j)) hF HN3.out.1 (show t + 16 < 80 by omega) (.int .u64 (IntKind.u64.wrap (IntKind.u64.wrap (IntKind.u64.wrap (lo1_64 (sched64 (fun j => B (128 * i + j)) (t + 14)) + sched64 (fun j => B (128 * i + j)) (t + 9)) + lo0_64 (sched64 (fun j => B (128 * i + j)) (t + 1))) + sched64 (fun j => B (128 * i + j)) t))) (val_eqD (by rw [hv]; simp only [IntKind.wrap_u64, Int.emod_add_emod]))
                exact ⟨t + 1, by omega, by go_num, ((HT3.out.drewN nq).setNew w.heap.size (t + 16) _ (Nat.le_refl _) hg).drew, ⟨hfill.2, by simpa using HN3.out.2⟩, range_far (w := wr.drewN nq) HR3.out _ (by omega), fun j hj => hfill.1 j (by omega)⟩
              case measure => simp [intOf]; omega
            · obtain rfl : t = 64 := by omega
              clear h48 ht
              go_wp2_with fail
              have hs := HT3.out.size
              refine (rounds64_walk g o w.heap.size _ _ _ _ _ _ _ _ (sched64 (fun j => B (128 * i + j))) C wr HR3.out (HT3.out.there _ _ HT.out) (fun j hj => HF3.out j (by omega)) (fun j hj => HT3.out.outside (HC.out j hj) (.inl hg3))).mono ?_
              rintro e w4 ⟨rfl, ht4, hr4⟩
              have HT4 : Hid (Touch w w4 g o 8) := HT3.out.trans ht4
              have HN4 : Hid (w4.there w.heap.size 0 80 ∧ w.heap.size < w4.heap.size) := ⟨ht4.thereFar HN3.out.1 HN3.out.2 (by omega), Nat.lt_of_lt_of_le HN3.out.2 ht4.size⟩
              have HR4 : Hid (w4.rangeAt g o (takes64 C B s (i + 1)).cells) := hr4
              clear ht4 hr4 HT3 HN3 HR3 HF3 hs
              go_wp2
              go_roundw
              case rel =>
                obtain ⟨h1, h2, h3⟩ := HQ.out
                exact ⟨i + 1, if c = 128 then q else q + 128, by omega, (by split <;> omega), slice_eq (by split <;> rfl) (by omega) (by omega), HT4, HN4, HR4⟩
              case measure => simp [lenOf]; omega
    · go_wp2
      go_end0
      refine ⟨rfl, HT1.out, ?_⟩
      rw [show n / 128 = i by omega]
      exact HR1.out
end Go.Proofs.YtbpkocohddlbhaaDoor
namespace Go.Proofs.YtbpkocohddlbhaaDoor
open Go.RowKit

/-- A list of bytes behind a slice value. -/
def View (w : World) (v : Value) (zs : List Int) : Prop :=
  ∃ a cap, v = .slice a zs.length cap ∧ zs.length ≤ cap ∧ cap ≤ maxLen ∧ (a = none → cap = 0) ∧
    (zs = [] ∨ ∃ b off, a = some ⟨b, off, none⟩ ∧ ∀ i, i < zs.length → w.cell? ⟨b, off + i, none⟩ = some (.int .u8 (zs.getD i 0)))

theorem ret_bool {a b : Bool} (h : a = b) : Ending.returned (.bool a) = .returned (.bool b) := by rw [h]
theorem ext_getD {xs ys : List Int} {n : Nat} (hx : xs.length = n) (hy : ys.length = n) (h : ∀ j, j < n → xs.getD j 0 = ys.getD j 0) : xs = ys := by
  apply List.ext_getElem (by omega)
  intro i h1 h2
  have := h i (by omega)
  simpa [List.getD, List.getElem?_eq_getElem h1, List.getElem?_eq_getElem h2] using this

set_option maxHeartbeats 400000 in
theorem same_core (b1 o1 b2 o2 c1 c2 n : Nat) (xs ys : List Int) (w : World) (hx : xs.length = n) (hy : ys.length = n) (hn : n ≤ 9223372036854775807)
    (h1 : ∀ i, i < n → w.cell? ⟨b1, o1 + i, none⟩ = some (.int .u8 (xs.getD i 0)))
    (h2 : ∀ i, i < n → w.cell? ⟨b2, o2 + i, none⟩ = some (.int .u8 (ys.getD i 0))) :
    Calls Tryd.prog 26 #[.slice (some ⟨b1, o1, none⟩) n c1, .slice (some ⟨b2, o2, none⟩) n c2] w fun e w' => e = .returned (.bool (decide (xs = ys))) ∧ ∃ m, w' = w.drewN m := by
  have HX : Hid (xs.length = n) := hx
  have HY : Hid (ys.length = n) := hy
  clear hx hy
  go_enter Tryd.func26, Tryd.ntmps26
  go_wp2
  go_loopw [5] (fun i wr => ∃ k : Nat, k ≤ n ∧ i = .int .i64 k ∧ Hid (∀ j, j < k → xs.getD j 0 = ys.getD j 0) ∧ ∃ m, wr = w.drewN m) (fun i _ => n - (intOf i).toNat)
  case atStart => exact ⟨0, Nat.zero_le _, rfl, (fun j hj => by omega), 0, rfl⟩
  case round =>
    obtain ⟨k, hk, rfl, HE, m, rfl⟩ := hrel
    by_cases hlt : k < n
    · have g1 := h1 k hlt
      have g2 := h2 k hlt
      clear h1 h2
      go_wp2
      go_quiet (fail)
      go_wp2
      · have hne : (xs[k]?.getD 0 != ys[k]?.getD 0) = true := by assumption
        go_ret
        refine ⟨ret_bool ?_, _, World.drewN_drewN _ _ _⟩
        have : xs ≠ ys := by
          intro h
          subst h
          simp at hne
        simp [this]
      · have heq : (xs[k]?.getD 0 != ys[k]?.getD 0) = false := by assumption
        go_roundw
        case rel =>
          refine ⟨k + 1, by omega, by go_num, ?_, _, rfl⟩
          intro j hj
          by_cases hjk : j < k
          · exact HE.out j hjk
          · obtain rfl : j = k := by omega
            simpa using heq
        case measure => simp [intOf]; omega
    · go_wp2
      go_ret
      have := ext_getD HX.out HY.out (fun j hj => HE.out j (by omega))
      exact ⟨ret_bool (by simp [this]), _, rfl⟩

theorem same_zero (a1 a2 : Option Addr) (c1 c2 : Nat) (w : World) :
    Calls Tryd.prog 26 #[.slice a1 0 c1, .slice a2 0 c2] w fun e w' => e = .returned (.bool true) ∧ ∃ m, w' = w.drewN m := by
  go_enter Tryd.func26, Tryd.ntmps26
  go_wp2
  go_loop [5] (fun i => i = .int .i64 0) (fun _ => 0)
  case atStart => rfl
  case round =>
    subst hrel
    go_wp2
    go_ret
    exact ⟨rfl, 0, rfl⟩

theorem same_unlike (a1 a2 : Option Addr) (l1 l2 c1 c2 : Nat) (w : World) (h : l1 ≠ l2) :
    Calls Tryd.prog 26 #[.slice a1 l1 c1, .slice a2 l2 c2] w fun e w' => e = .returned (.bool false) ∧ ∃ m, w' = w.drewN m := by
  have hb : ((l1 : Int) != (l2 : Int)) = true := by rw [bne_iff_ne]; omega
  clear h
  go_enter Tryd.func26, Tryd.ntmps26
  go_wp2
  go_ret
  exact ⟨rfl, 0, rfl⟩

/-- cofferbook.SameBytes. -/
theorem same_any (v1 v2 : Value) (xs ys : List Int) (w : World) (h1 : View w v1 xs) (h2 : View w v2 ys) :
    Calls Tryd.prog 26 #[v1, v2] w fun e w' => e = .returned (.bool (decide (xs = ys))) ∧ ∃ m, w' = w.drewN m := by
  obtain ⟨a1, c1, rfl, hl1, hm1, _, k1⟩ := h1
  obtain ⟨a2, c2, rfl, hl2, hm2, _, k2⟩ := h2
  by_cases hl : xs.length = ys.length
  · rcases k1 with rfl | ⟨b1, o1, rfl, g1⟩
    · have : ys = [] := List.eq_nil_of_length_eq_zero (by simpa using hl.symm)
      subst this
      simpa using same_zero a1 a2 c1 c2 w
    · rcases k2 with rfl | ⟨b2, o2, rfl, g2⟩
      · have : xs = [] := List.eq_nil_of_length_eq_zero (by simpa using hl)
        subst this
        simpa using same_zero _ a2 c1 c2 w
      · rw [← hl]
        exact same_core b1 o1 b2 o2 c1 c2 xs.length xs ys w rfl hl.symm (by unfold maxLen at hm1; omega) g1 (by rw [hl]; exact g2)
  · have hne : xs ≠ ys := fun h => hl (by rw [h])
    have hd : decide (xs = ys) = false := by simpa using hne
    rw [hd]
    exact same_unlike a1 a2 _ _ c1 c2 w hl
end Go.Proofs.YtbpkocohddlbhaaDoor
namespace Go.Proofs.YtbpkocohddlbhaaDoor
/-- Numbers that are bytes. -/
def AllBytes (zs : List Int) : Prop := ∀ i, 0 ≤ zs.getD i 0 ∧ zs.getD i 0 < 256
end Go.Proofs.YtbpkocohddlbhaaDoor
namespace Go.Proofs.YtbpkocohddlbhaaDoor
open Go.RowKit

theorem Tryd.info5 : (Tryd.prog.info? 5).map (fun i => (i.zero, i.size, i.bytes)) = some (some (.int .u8 0), 1, 1) := by kernel_rfl

/-- The marks behind a copy. -/
def marks (k : Nat) : List Int := (List.range k).map fun (i : Nat) => (181 + (i : Int))
theorem marks_length (k : Nat) : (marks k).length = k := by simp [marks]
theorem marks_succ (k : Nat) : marks (k + 1) = marks k ++ [(181 + (k : Int))] := by simp [marks, List.range_succ]
/-- Bytes as cells. -/
def cellsU8 (zs : List Int) : List Value := zs.map (Value.int .u8)
theorem cellsU8_append (a b : List Int) : cellsU8 (a ++ b) = cellsU8 a ++ cellsU8 b := by simp [cellsU8]
theorem cellsU8_length (a : List Int) : (cellsU8 a).length = a.length := by simp [cellsU8]
theorem cellsU8_one (a : List Int) : ∀ u ∈ cellsU8 a, u.oneCell' = true := by
  intro u hu
  obtain ⟨_, _, rfl⟩ := List.mem_map.1 hu
  rfl
theorem cellsU8_at (a : List Int) (w : World) (b off : Nat) (h : ∀ i, i < a.length → w.cell? ⟨b, off + i, none⟩ = some (.int .u8 (a.getD i 0))) :
    ∀ j u, (cellsU8 a)[j]? = some u → w.cell? ((⟨b, off, none⟩ : Addr).add j) = some u := by
  intro j u hu
  simp only [cellsU8, List.getElem?_map, Option.map_eq_some_iff] at hu
  obtain ⟨z, hz, rfl⟩ := hu
  have hj : j < a.length := (List.getElem?_eq_some_iff.1 hz).1
  have := h j hj
  rw [List.getD_eq_getElem?_getD, hz] at this
  rw [Addr.add_lit]
  simpa using this

set_option maxHeartbeats 800000 in
set_option maxRecDepth 100000 in
theorem copy_some (x : Addr) (n cap : Nat) (zs : List Int) (w : World) (hz : Hid (zs.length = n)) (hn : n + 70 ≤ 140737488355328)
    (h1 : Hid (∀ j u, (cellsU8 zs)[j]? = some u → w.cell? (x.add j) = some u)) :
    Calls Tryd.prog 6 #[.slice (some x) n cap] w fun e w' => ∃ g c, e = .returned (.slice (some ⟨g, 0, none⟩) n c) ∧ w'.ownsRow w.heap.size 5 1 (.slice (some ⟨g, 0, none⟩) (n + 70) c) (n + 70) (cellsU8 (zs ++ marks 70)) ∧ Below w.heap.size w w' := by
  obtain ⟨i0, hi, hz0, hz1, hz2⟩ := info_parts Tryd.info5
  go_enter Tryd.func6, Tryd.ntmps6
  go_wp2_with (first
    | (at_builtin; go_must (refine wpList_append_own _ rfl (.tmp 6) (.tmp 7) 23 rfl w.heap.size 5 i0 (.int .u8 0) 1 1 Tryd.underlying23 hi hz0 hz1 hz2 rfl (by decide) _ 0 [] rfl (World.ownsRow_nil _ _ _ _) x n cap (cellsU8 zs) rfl ?_ h1.out (cellsU8_one zs) ?_ ?_ (Nat.le_refl _) ?_)))
  · rw [cellsU8_length, hz.out, Nat.mul_one]
  · unfold maxLen; omega
  · omega
  intro v1 w1 hown hgrow hnil
  have hb0 : Below w.heap.size w w1 := (Below.refl _ _).grown hgrow (Nat.le_refl _) (by intro k hk; cases hk)
  have HB : Hid (Below w.heap.size w w1) := hb0
  clear hgrow hb0 hnil
  go_wp2
  go_loopw [3, 4] (fun v i wr => ∃ k : Nat, k ≤ 70 ∧ i = .int .i64 k ∧ wr.ownsRow w.heap.size 5 1 v (n + k) (cellsU8 (zs ++ marks k)) ∧ Hid (Below w.heap.size w wr)) (fun _ i _ => 70 - (intOf i).toNat)
  case atStart => exact ⟨0, by omega, rfl, by simpa [marks] using hown, HB⟩
  case round =>
    obtain ⟨k, hk, rfl, hown2, HB2⟩ := hrel
    clear hown HB
    by_cases hlt : k < 70
    · go_wp2_with (first
        | (at_builtin; go_must (refine wpList_append_own _ rfl (.tmp 13) (.tmp 17) 23 rfl w.heap.size 5 i0 (.int .u8 0) 1 1 Tryd.underlying23 hi hz0 hz1 hz2 rfl (by decide) _ _ _ rfl (hown2.alloc _) ⟨wr.heap.size, 0, none⟩ 1 1 [.int .u8 (181 + (k : Int))] rfl rfl ?_ ?_ ?_ ?_ ?_ ?_)))
      · intro j u hj
        match j, hj with
        | 0, hj => simp at hj; subst hj; simp [Addr.add]
      · intro u hu; simp at hu; subst hu; rfl
      · unfold maxLen; omega
      · omega
      · have := HB2.out.size; simp; omega
      intro v2 w2 hown3 hgrow2 hnil2
      have HB3 : Hid (Below w.heap.size w w2) := (HB2.out.alloc HB2.out.size _).grown hgrow2 (by have := HB2.out.size; simp; omega) (fun q hq => (hown2.lt q hq).1)
      have ho3 : w2.ownsRow w.heap.size 5 1 v2 (n + (k + 1)) (cellsU8 (zs ++ marks (k + 1))) := by
        rw [marks_succ, ← List.append_assoc, cellsU8_append]
        simpa [cellsU8, Nat.add_assoc] using hown3
      have HO3 : Hid (w2.ownsRow w.heap.size 5 1 v2 (n + (k + 1)) (cellsU8 (zs ++ marks (k + 1)))) := ho3
      clear ho3 hown3 hgrow2 hnil2 hown2 HB2
      go_wp2
      go_roundw
      case rel => exact ⟨k + 1, by omega, by go_num, HO3, HB3⟩
      case measure => simp [intOf]; omega
    · obtain rfl : k = 70 := by omega
      obtain ⟨hlen, hcase⟩ := hown2
      rcases hcase with ⟨_, hc⟩ | ⟨g, c, cur, rfl, hg1, hg2, hg3, hg4, hg5, hg6⟩
      · omega
      have HO : Hid (wr.ownsRow w.heap.size 5 1 (.slice (some ⟨g, 0, none⟩) (n + 70) c) (n + 70) (cellsU8 (zs ++ marks 70))) := ⟨hlen, .inr ⟨g, c, cur, rfl, hg1, hg2, hg3, hg4, hg5, hg6⟩⟩
      clear hlen hg1 hg2 hg5 hg6 hlt
      unfold maxLen at hg4
      go_wp2
      go_ret
      exact ⟨g, c, rfl, HO, HB2⟩
set_option maxHeartbeats 800000 in
set_option maxRecDepth 100000 in
theorem copy_nil (w : World) :
    Calls Tryd.prog 6 #[.slice none 0 0] w fun e w' => ∃ g c, e = .returned (.slice (some ⟨g, 0, none⟩) 0 c) ∧ w'.ownsRow w.heap.size 5 1 (.slice (some ⟨g, 0, none⟩) 70 c) 70 (cellsU8 (marks 70)) ∧ Below w.heap.size w w' := by
  obtain ⟨i0, hi, hz0, hz1, hz2⟩ := info_parts Tryd.info5
  go_enter Tryd.func6, Tryd.ntmps6
  go_wp2_with (first
    | (at_builtin; go_must (refine wpList_append_own_none rfl (.tmp 6) (.tmp 7) 23 rfl w.heap.size 5 i0 1 Tryd.underlying23 hi _ 0 [] rfl (World.ownsRow_nil _ _ _ _) rfl ?_)))
  go_wp2
  go_loopw [3, 4] (fun v i wr => ∃ k : Nat, k ≤ 70 ∧ i = .int .i64 k ∧ wr.ownsRow w.heap.size 5 1 v k (cellsU8 (marks k)) ∧ Hid (Below w.heap.size w wr)) (fun _ i _ => 70 - (intOf i).toNat)
  case atStart => exact ⟨0, by omega, rfl, World.ownsRow_nil _ _ _ _, Below.refl _ _⟩
  case round =>
    obtain ⟨k, hk, rfl, hown2, HB2⟩ := hrel
    by_cases hlt : k < 70
    · go_wp2_with (first
        | (at_builtin; go_must (refine wpList_append_own _ rfl (.tmp 13) (.tmp 17) 23 rfl w.heap.size 5 i0 (.int .u8 0) 1 1 Tryd.underlying23 hi hz0 hz1 hz2 rfl (by decide) _ _ _ rfl (hown2.alloc _) ⟨wr.heap.size, 0, none⟩ 1 1 [.int .u8 (181 + (k : Int))] rfl rfl ?_ ?_ ?_ ?_ ?_ ?_)))
      · intro j u hj
        match j, hj with
        | 0, hj => simp at hj; subst hj; simp [Addr.add]
      · intro u hu; simp at hu; subst hu; rfl
      · unfold maxLen; omega
      · omega
      · have := HB2.out.size; simp; omega
      intro v2 w2 hown3 hgrow2 hnil2
      have HB3 : Hid (Below w.heap.size w w2) := (HB2.out.alloc HB2.out.size _).grown hgrow2 (by have := HB2.out.size; simp; omega) (fun q hq => (hown2.lt q hq).1)
      have ho3 : w2.ownsRow w.heap.size 5 1 v2 (k + 1) (cellsU8 (marks (k + 1))) := by
        rw [marks_succ, cellsU8_append]
        simpa [cellsU8] using hown3
      have HO3 : Hid (w2.ownsRow w.heap.size 5 1 v2 (k + 1) (cellsU8 (marks (k + 1)))) := ho3
      clear ho3 hown3 hgrow2 hnil2 hown2 HB2
      go_wp2
      go_roundw
      case rel => exact ⟨k + 1, by omega, by go_num, HO3, HB3⟩
      case measure => simp [intOf]; omega
    · obtain rfl : k = 70 := by omega
      obtain ⟨hlen, hcase⟩ := hown2
      rcases hcase with ⟨_, hc⟩ | ⟨g, c, cur, rfl, hg1, hg2, hg3, hg4, hg5, hg6⟩
      · omega
      have HO : Hid (wr.ownsRow w.heap.size 5 1 (.slice (some ⟨g, 0, none⟩) 70 c) 70 (cellsU8 (marks 70))) := ⟨hlen, .inr ⟨g, c, cur, rfl, hg1, hg2, hg3, hg4, hg5, hg6⟩⟩
      clear hlen hg1 hg2 hg5 hg6 hlt
      unfold maxLen at hg4
      go_wp2
      go_ret
      exact ⟨g, c, rfl, HO, HB2⟩
end Go.Proofs.YtbpkocohddlbhaaDoor
namespace Go.Proofs.YtbpkocohddlbhaaDoor
open Go.RowKit

theorem View.kept {w w' : World} {v : Value} {zs : List Int} (h : View w v zs) (hb : ∀ k, k < w.heap.size → w'.heap[k]? = w.heap[k]?) : View w' v zs := by
  obtain ⟨a, c, rfl, h1, h2, h3, h4⟩ := h
  refine ⟨a, c, rfl, h1, h2, h3, ?_⟩
  rcases h4 with h4 | ⟨b, off, rfl, hc⟩
  · exact .inl h4
  · refine .inr ⟨b, off, rfl, fun i hi => ?_⟩
    have := hc i hi
    have hlt := World.block_lt_of_cell? w _ this
    rw [World.cell?_of_block (w := w) (hb b hlt)]
    exact this

/-- A copy with marks behind it, in memory from block B on. -/
def Marked (B : Nat) (w : World) (v : Value) (zs : List Int) : Prop :=
  ∃ g c, v = .slice (some ⟨g, 0, none⟩) zs.length c ∧ w.ownsRow B 5 1 (.slice (some ⟨g, 0, none⟩) (zs.length + 70) c) (zs.length + 70) (cellsU8 (zs ++ marks 70))

theorem Marked.kept {B : Nat} {w w' : World} {v : Value} {zs : List Int} (h : Marked B w v zs) (hb : ∀ k, k < w.heap.size → w'.heap[k]? = w.heap[k]?) : Marked B w' v zs := by
  obtain ⟨g, c, rfl, hl, h⟩ := h
  refine ⟨g, c, rfl, hl, ?_⟩
  rcases h with ⟨h, _⟩ | ⟨g', c', cur, he, h1, h2, r⟩
  · cases h
  · refine .inr ⟨g', c', cur, he, h1, ?_, r⟩
    rw [hb g' (Array.getElem?_eq_some_iff.1 h2).1]
    exact h2

theorem Marked.cells {B : Nat} {w : World} {v : Value} {zs : List Int} (h : Marked B w v zs) :
    ∃ g c, v = .slice (some ⟨g, 0, none⟩) zs.length c ∧ zs.length + 70 ≤ c ∧ c ≤ maxLen ∧ (∀ i, i < zs.length → w.cell? ⟨g, i, none⟩ = some (.int .u8 (zs.getD i 0))) ∧ (∀ i, i < 70 → w.cell? ⟨g, zs.length + i, none⟩ = some (.int .u8 (181 + (i : Int)))) := by
  obtain ⟨g, c, rfl, ho⟩ := h
  have hc := ho.cells (g := g) rfl
  refine ⟨g, c, rfl, ?_, ?_, fun i hi => ?_, fun i hi => ?_⟩
  · rcases ho.2 with ⟨h, _⟩ | ⟨g', c', cur, he, _, _, h1, _⟩
    · cases h
    · cases he; exact h1
  · rcases ho.2 with ⟨h, _⟩ | ⟨g', c', cur, he, _, _, _, h1, _⟩
    · cases h
    · cases he; exact h1
  · have := hc i (.int .u8 (zs.getD i 0)) (by
      simp only [cellsU8, List.getElem?_map]
      rw [List.getElem?_append_left hi]
      simp [List.getElem?_eq_getElem hi, List.getD])
    rw [Addr.add_lit] at this
    simpa using this
  · have := hc (zs.length + i) (.int .u8 (181 + (i : Int))) (by
      simp only [cellsU8, List.getElem?_map]
      rw [List.getElem?_append_right (by omega)]
      simp [marks, hi])
    rw [Addr.add_lit] at this
    simpa using this

theorem Marked.view {B : Nat} {w : World} {v : Value} {zs : List Int} (h : Marked B w v zs) : View w v zs := by
  obtain ⟨g, c, rfl, h1, h2, h3, _⟩ := h.cells
  refine ⟨_, c, rfl, by omega, h2, ?_, Or.inr ⟨g, 0, rfl, fun i hi => by simpa using h3 i hi⟩⟩
  intro h
  cases h

/-- cofferbook.Bytes. -/
theorem copy_any (v : Value) (zs : List Int) (w : World) (hn : zs.length + 70 ≤ 140737488355328) (h : View w v zs) :
    Calls Tryd.prog 6 #[v] w fun e w' => ∃ v', e = .returned v' ∧ Marked w.heap.size w' v' zs ∧ Below w.heap.size w w' := by
  obtain ⟨a, c, rfl, h1, h2, h3, h4⟩ := h
  cases a with
  | none =>
    obtain rfl := h3 rfl
    have hz : zs = [] := List.eq_nil_of_length_eq_zero (by omega)
    subst hz
    refine (copy_nil w).mono ?_
    rintro e w' ⟨g, c, rfl, ho, hb⟩
    exact ⟨_, rfl, ⟨g, c, rfl, by simpa using ho⟩, hb⟩
  | some x =>
    have hc : ∀ j u, (cellsU8 zs)[j]? = some u → w.cell? (x.add j) = some u := by
      rcases h4 with rfl | ⟨b, off, he, hcell⟩
      · intro j u hu
        simp [cellsU8] at hu
      · cases he
        exact cellsU8_at zs w b off hcell
    refine (copy_some x zs.length c zs w rfl hn hc).mono ?_
    rintro e w' ⟨g, c, rfl, ho, hb⟩
    exact ⟨_, rfl, ⟨g, c, rfl, ho⟩, hb⟩

set_option maxHeartbeats 400000 in
theorem whole_core (g c n : Nat) (v2 : Value) (zs : List Int) (w : World) (hc : n + 70 ≤ c) (hm : c ≤ 9223372036854775807)
    (h1 : Hid (View w (.slice (some ⟨g, 0, none⟩) n c) zs)) (h2 : Hid (View w v2 zs))
    (h3 : ∀ i, i < 70 → w.cell? ⟨g, n + i, none⟩ = some (.int .u8 (181 + (i : Int)))) :
    Calls Tryd.prog 13 #[.slice (some ⟨g, 0, none⟩) n c, v2] w fun e w' => e = .returned (.bool true) ∧ ∃ m, w' = w.drewN m := by
  go_enter Tryd.func13, Tryd.ntmps13
  go_wp2_with fail
  refine (same_any _ _ zs zs _ h1.out h2.out).mono ?_
  rintro e w' ⟨rfl, m, rfl⟩
  simp only [decide_true]
  go_wp2
  go_loop [7] (fun i => ∃ k : Nat, k ≤ 70 ∧ i = .int .i64 k) (fun i => 70 - (intOf i).toNat)
  case atStart => exact ⟨0, by omega, rfl⟩
  case round =>
    obtain ⟨k, hk, rfl⟩ := hrel
    by_cases hlt : k < 70
    · have g3 := h3 k hlt
      clear h3
      go_wp2
      go_round
      case rel => exact ⟨k + 1, by omega, by go_num⟩
      case measure => simp [intOf]; omega
    · go_wp2
      go_ret
      exact ⟨rfl, m, rfl⟩

/-- cofferbook.WholeBytes, of a copy that is as it was made. -/
theorem whole_any (v1 v2 : Value) (zs : List Int) (B : Nat) (w : World) (h1 : Marked B w v1 zs) (h2 : View w v2 zs) :
    Calls Tryd.prog 13 #[v1, v2] w fun e w' => e = .returned (.bool true) ∧ ∃ m, w' = w.drewN m := by
  have hv := h1.view
  obtain ⟨g, c, rfl, hc, hm, _, h4⟩ := h1.cells
  exact whole_core g c zs.length v2 zs w hc (by unfold maxLen at hm; omega) hv h2 h4
end Go.Proofs.YtbpkocohddlbhaaDoor
namespace Go.Proofs.YtbpkocohddlbhaaDoor
open Go.RowKit
set_option linter.unusedVariables false

/-- The table of the cubes' roots, as a function. -/
def cubesL : List Int := [4794697086780616226, 8158064640168781261, 13096744586834688815, 16840607885511220156, 4131703408338449720, 6480981068601479193, 10538285296894168987, 12329834152419229976, 15566598209576043074, 1334009975649890238, 2608012711638119052, 6128411473006802146, 8268148722764581231, 9286055187155687089, 11230858885718282805, 13951009754708518548, 16472876342353939154, 17275323862435702243, 1135362057144423861, 2597628984639134821, 3308224258029322869, 5365058923640841347, 6679025012923562964, 8573033837759648693, 10970295158949994411, 12119686244451234320, 12683024718118986047, 13788192230050041572, 14330467153632333762, 15395433587784984357, 489312712824947311, 1452737877330783856, 2861767655752347644, 3322285676063803686, 5560940570517711597, 5996557281743188959, 7280758554555802590, 8532644243296465576, 9350256976987008742, 10552545826968843579, 11727347734174303076, 12113106623233404929, 14000437183269869457, 14369950271660146224, 15101387698204529176, 15463397548674623760, 17586052441742319658, 1182934255886127544, 1847814050463011016, 2177327727835720531, 2830643537854262169, 3796741975233480872, 4115178125766777443, 5681478168544905931, 6601373596472566643, 7507060721942968483, 8399075790359081724, 8693463985226723168, 9568029438360202098, 10144078919501101548, 10430055236837252648, 11840083180663258601, 13761210420658862357, 14299343276471374635, 14566680578165727644, 15097957966210449927, 16922976911328602910, 17689382322260857208, 500013540394364858, 748580250866718886, 1242879168328830382, 1977374033974150939, 2944078676154940804, 3659926193048069267, 4368137639120453308, 4836135668995329356, 5532061633213252278, 6448918945643986474, 6902733635092675308, 7801388544844847127]
def rootsL : List Int := [7640891576956012808, 13503953896175478587, 4354685564936845355, 11912009170470909681, 5840696475078001361, 11170449401992604703, 2270897969802886507, 6620516959819538809, 14680500436340154072, 7105036623409894663, 10473403895298186519, 1526699215303891257, 7436329637833083697, 10282925794625328401, 15784041429090275239, 5167115440072839076]
def cubeAt (t : Nat) : Int := cubesL.getD t 0
def rootAt (t : Nat) : Int := rootsL.getD t 0
/-- The two tables lie where the program laid them. -/
structure Tables (w : World) : Prop where
  cubes : ∀ t, t < 80 → w.cell? ⟨3, t, none⟩ = some (.int .u64 (cubeAt t))
  roots : ∀ t, t < 16 → w.cell? ⟨2, t, none⟩ = some (.int .u64 (rootAt t))
theorem Tables.kept {w w' : World} (h : Tables w) (hb : ∀ k, k < 4 → w'.heap[k]? = w.heap[k]?) : Tables w' :=
  ⟨fun t ht => by rw [World.cell?_of_block (w := w) (hb 3 (by omega))]; exact h.cubes t ht, fun t ht => by rw [World.cell?_of_block (w := w) (hb 2 (by omega))]; exact h.roots t ht⟩
theorem Tables.size {w : World} (h : Tables w) : 4 ≤ w.heap.size := lt_of_cell (h.cubes 0 (by omega))
theorem Tables.below {w w' : World} {B : Nat} (h : Tables w) (b : Below B w w') (hB : 4 ≤ B) : Tables w' := h.kept fun k hk => b.block k (by omega)
theorem Tables.touch {w w' : World} {g o n : Nat} (h : Tables w) (b : Touch w w' g o n) (hg : 4 ≤ g) : Tables w' := h.kept fun k hk => b.block k (by have := h.size; omega) (by omega)

def bsz (wd : Bool) : Nat := if wd then 128 else 64
def fnOf (wd : Bool) : FuncId := if wd then 81 else 80
def fnV (wd : Bool) : Value := .func (.func (fnOf wd)) #[] #[]
/-- The words behind n blocks. -/
def TT (wd : Bool) (B : Nat → Int) (s : Eight) (n : Nat) : Eight := if wd then takes64 cubeAt B s n else takes32 cubeAt B s n
theorem bsz_pos (wd : Bool) : 0 < bsz wd := by cases wd <;> decide

theorem TT_zero (wd : Bool) (B : Nat → Int) (s : Eight) : TT wd B s 0 = s := by cases wd <;> rfl
theorem sched32_congr {B B' : Nat → Int} (h : ∀ j, j < 64 → B j = B' j) : ∀ n t, t < n → t < 64 → sched32 B t = sched32 B' t
  | 0, t, h0, _ => by omega
  | n + 1, t, h0, h1 => by
    rw [sched32.eq_def B t, sched32.eq_def B' t]
    by_cases h16 : t < 16
    · rw [if_pos h16, if_pos h16]
      simp only [word32]
      rw [h (4 * t) (by omega), h (4 * t + 1) (by omega), h (4 * t + 2) (by omega), h (4 * t + 3) (by omega)]
    · rw [if_neg h16, if_neg h16, sched32_congr h n (t - 2) (by omega) (by omega), sched32_congr h n (t - 7) (by omega) (by omega), sched32_congr h n (t - 15) (by omega) (by omega), sched32_congr h n (t - 16) (by omega) (by omega)]
theorem rounds32_congr {C W W' : Nat → Int} (s : Eight) : ∀ n, (∀ t, t < n → W t = W' t) → rounds32 C W n s = rounds32 C W' n s
  | 0, _ => rfl
  | n + 1, h => by rw [rounds32, rounds32, rounds32_congr s n (fun t ht => h t (by omega)), h n (by omega)]
theorem block32_congr {C B B' : Nat → Int} (s : Eight) (h : ∀ j, j < 64 → B j = B' j) : block32 C B s = block32 C B' s := by
  rw [block32, block32, rounds32_congr _ 64 (fun t ht => sched32_congr h 64 t ht ht)]
theorem part64_congr {B B' : Nat → Int} (t : Nat) : ∀ k, (∀ j, j < k → B (8 * t + j) = B' (8 * t + j)) → part64 B t k = part64 B' t k
  | 0, _ => rfl
  | k + 1, h => by rw [part64, part64, part64_congr t k (fun j hj => h j (by omega)), h k (by omega)]
theorem sched64_congr {B B' : Nat → Int} (h : ∀ j, j < 128 → B j = B' j) : ∀ n t, t < n → t < 80 → sched64 B t = sched64 B' t
  | 0, t, h0, _ => by omega
  | n + 1, t, h0, h1 => by
    rw [sched64.eq_def B t, sched64.eq_def B' t]
    by_cases h16 : t < 16
    · rw [if_pos h16, if_pos h16, part64_congr t 8 (fun j hj => h _ (by omega))]
    · rw [if_neg h16, if_neg h16, sched64_congr h n (t - 2) (by omega) (by omega), sched64_congr h n (t - 7) (by omega) (by omega), sched64_congr h n (t - 15) (by omega) (by omega), sched64_congr h n (t - 16) (by omega) (by omega)]
theorem rounds64_congr {C W W' : Nat → Int} (s : Eight) : ∀ n, (∀ t, t < n → W t = W' t) → rounds64 C W n s = rounds64 C W' n s
  | 0, _ => rfl
  | n + 1, h => by rw [rounds64, rounds64, rounds64_congr s n (fun t ht => h t (by omega)), h n (by omega)]
theorem block64_congr {C B B' : Nat → Int} (s : Eight) (h : ∀ j, j < 128 → B j = B' j) : block64 C B s = block64 C B' s := by
  rw [block64, block64, rounds64_congr _ 80 (fun t ht => sched64_congr h 80 t ht ht)]
/-- The words hang on the blocks' bytes alone. -/
theorem TT_congr (wd : Bool) {B B' : Nat → Int} (s : Eight) : ∀ n, (∀ j, j < bsz wd * n → B j = B' j) → TT wd B s n = TT wd B' s n
  | 0, _ => by rw [TT_zero, TT_zero]
  | n + 1, h => by
    have ih := TT_congr wd s n (B := B) (B' := B') (fun j hj => h j (by rw [Nat.mul_succ]; omega))
    cases wd
    · simp only [TT, bsz, Bool.false_eq_true, if_false] at ih h ⊢
      rw [takes32, takes32, ih]
      exact block32_congr _ fun j hj => h _ (by omega)
    · simp only [TT, bsz, if_true] at ih h ⊢
      rw [takes64, takes64, ih]
      exact block64_congr _ fun j hj => h _ (by omega)
/-- Blocks behind blocks. -/
theorem TT_add (wd : Bool) (B : Nat → Int) (s : Eight) (i : Nat) : ∀ j, TT wd B s (i + j) = TT wd (fun k => B (bsz wd * i + k)) (TT wd B s i) j
  | 0 => by rw [TT_zero]; rfl
  | j + 1 => by
    have ih := TT_add wd B s i j
    cases wd
    · simp only [TT, bsz, Bool.false_eq_true, if_false] at ih ⊢
      rw [← Nat.add_assoc, takes32, takes32, ← ih]
      exact block32_congr _ fun k hk => by rw [Nat.mul_add, Nat.add_assoc]
    · simp only [TT, bsz, if_true] at ih ⊢
      rw [← Nat.add_assoc, takes64, takes64, ← ih]
      exact block64_congr _ fun k hk => by rw [Nat.mul_add, Nat.add_assoc]

set_option maxHeartbeats 400000 in
theorem narrow_zero (a : Value) (p : Option Addr) (cap : Nat) (w : World) :
    Calls Tryd.prog 80 #[a, .slice p 0 cap] w fun e w' => e = .returned (.tuple #[]) ∧ Below w.heap.size w w' := by
  have hb : Hid (∀ o, Below w.heap.size w (w.alloc o)) := fun o => (Below.refl _ _).alloc (Nat.le_refl _) o
  go_enter Tryd.func80, Tryd.ntmps80
  go_wp2
  go_loop [1] (fun v => v = .slice p 0 cap) (fun _ => 0)
  case atStart => exact rfl
  case round =>
    obtain rfl := hrel
    go_wp2
    go_end0
    exact ⟨rfl, hb.out _⟩
set_option maxHeartbeats 400000 in
theorem wide_zero (a : Value) (p : Option Addr) (cap : Nat) (w : World) :
    Calls Tryd.prog 81 #[a, .slice p 0 cap] w fun e w' => e = .returned (.tuple #[]) ∧ Below w.heap.size w w' := by
  have hb : Hid (∀ o, Below w.heap.size w (w.alloc o)) := fun o => (Below.refl _ _).alloc (Nat.le_refl _) o
  go_enter Tryd.func81, Tryd.ntmps81
  go_wp2
  go_loop [1] (fun v => v = .slice p 0 cap) (fun _ => 0)
  case atStart => exact rfl
  case round =>
    obtain rfl := hrel
    go_wp2
    go_end0
    exact ⟨rfl, hb.out _⟩

/-- A slice of bytes that lies apart from n cells of block g from o on. -/
def Apart (v : Value) (g o n : Nat) : Prop := ∀ b off l c, v = .slice (some ⟨b, off, none⟩) l c → b ≠ g ∨ off + l ≤ o ∨ o + n ≤ off
theorem range_below {w w' : World} {g o : Nat} {cs : List Value} (h : w.rangeAt g o cs) (b : Below w.heap.size w w') (hg : g < w.heap.size) : w'.rangeAt g o cs := fun j v hv => by
  rw [b.cell (p := ⟨g, o + j, none⟩) hg]
  exact h j v hv

/-- narrow, wide: the words behind a slice's blocks. -/
theorem take_any (wd : Bool) (g o : Nat) (v : Value) (zs : List Int) (s : Eight) (w : World) (hg : g < w.heap.size) (hr : w.rangeAt g o s.cells) (ht : w.there g o 8) (hv : View w v zs) (hsep : Apart v g o 8) (hT : Tables w) (hg3 : 4 ≤ g) :
    Calls Tryd.prog (fnOf wd) #[.pointer (some ⟨g, o, none⟩), v] w fun e w' => e = .returned (.tuple #[]) ∧ Touch w w' g o 8 ∧ w'.rangeAt g o (TT wd (fun i => zs.getD i 0) s (zs.length / bsz wd)).cells := by
  obtain ⟨a, cap, rfl, h1, h2, h3, h4⟩ := hv
  rcases h4 with rfl | ⟨b, p, rfl, hc⟩
  · cases wd
    · refine (narrow_zero _ a cap w).mono ?_
      rintro e w' ⟨rfl, hb⟩
      exact ⟨rfl, (Touch.refl _ _ _ _).below hb hg, range_below hr hb hg⟩
    · refine (wide_zero _ a cap w).mono ?_
      rintro e w' ⟨rfl, hb⟩
      exact ⟨rfl, (Touch.refl _ _ _ _).below hb hg, range_below hr hb hg⟩
  · have hs := hsep _ _ _ _ rfl
    cases wd
    · exact narrow_walk g o b p zs.length cap s cubeAt (fun i => zs.getD i 0) w hg h1 h2 hr ht hc hs (fun t ht => hT.cubes t (by omega)) (by omega)
    · exact wide_walk g o b p zs.length cap s cubeAt (fun i => zs.getD i 0) w hg h1 h2 hr ht hc hs hT.cubes (by omega)
end Go.Proofs.YtbpkocohddlbhaaDoor
namespace Go.Proofs.YtbpkocohddlbhaaDoor
open Go.RowKit
set_option linter.unusedVariables false
set_option linter.unusedSimpArgs false

/-- What lies where a taken lies: its digest, its words, the bytes of the half-full block, how much was fed. -/
structure TK (w : World) (g o : Nat) (h : Int) (wd : Bool) (s : Eight) (half : Nat → Int) (fed : Nat) : Prop where
  hash : w.cell? ⟨g, o, none⟩ = some (.int .i64 h)
  fn : w.cell? ⟨g, o + 1, none⟩ = some (fnV wd)
  st : w.rangeAt g (o + 2) s.cells
  half : ∀ i, i < 128 → w.cell? ⟨g, o + 10 + i, none⟩ = some (.int .u8 (half i))
  fed : w.cell? ⟨g, o + 138, none⟩ = some (.int .u64 fed)
  there : w.there g o 139
theorem Eight.cells_length (s : Eight) : s.cells.length = 8 := rfl
/-- The words are changed. -/
theorem TK.words {w v : World} {g o : Nat} {h : Int} {wd : Bool} {s s' : Eight} {half : Nat → Int} {fed : Nat} (k : TK w g o h wd s half fed) (t : Touch w v g (o + 2) 8) (hr : v.rangeAt g (o + 2) s'.cells) : TK v g o h wd s' half fed :=
  ⟨by rw [t.cell _ (by omega)]; exact k.hash, by rw [t.cell _ (by omega)]; exact k.fn, hr, fun i hi => by rw [t.cell _ (by omega)]; exact k.half i hi, by rw [t.cell _ (by omega)]; exact k.fed, t.there _ _ k.there⟩
/-- How much was fed is changed. -/
theorem TK.setFed {w : World} {g o : Nat} {h : Int} {wd : Bool} {s : Eight} {half : Nat → Int} {fed : Nat} (k : TK w g o h wd s half fed) (fed' : Nat) (x : Int) (hx : x = fed') : TK (w.setCell ⟨g, o + 138, none⟩ (.int .u64 x)) g o h wd s half fed' := by
  subst hx
  have t : Touch w (w.setCell ⟨g, o + 138, none⟩ (.int .u64 fed')) g (o + 138) 1 := (Touch.refl _ _ _ _).setCell _ _ (by omega) (by omega)
  refine ⟨by rw [t.cell _ (by omega)]; exact k.hash, by rw [t.cell _ (by omega)]; exact k.fn, fun j v hv => ?_, fun i hi => by rw [t.cell _ (by omega)]; exact k.half i hi, World.cell?_setCell_same' _ _ _ (k.there 138 (by omega)).1, t.there _ _ k.there⟩
  have hj : j < 8 := by
    by_cases hj : j < s.cells.length
    · exact hj
    · rw [List.getElem?_eq_none (by omega)] at hv; cases hv
  rw [t.cell _ (by omega)]
  exact k.st j v hv
/-- Bytes of the half-full block are changed. -/
theorem TK.setHalf {w : World} {g o : Nat} {h : Int} {wd : Bool} {s : Eight} {half : Nat → Int} {fed : Nat} (k : TK w g o h wd s half fed) (u : Nat) (xs : List Int) (hu : u + xs.length ≤ 128) :
    TK (w.setCells g (o + 10 + u) (cellsU8 xs)) g o h wd s (fun i => if u ≤ i ∧ i < u + xs.length then xs.getD (i - u) 0 else half i) fed ∧ Touch w (w.setCells g (o + 10 + u) (cellsU8 xs)) g o 139 := by
  have hl := cellsU8_length xs
  have t : Touch w (w.setCells g (o + 10 + u) (cellsU8 xs)) g (o + 10 + u) xs.length := (Touch.refl _ _ _ _).setCells _ _ (by omega) (by omega)
  refine ⟨⟨by rw [t.cell _ (by omega)]; exact k.hash, by rw [t.cell _ (by omega)]; exact k.fn, fun j v hv => ?_, fun i hi => ?_, by rw [t.cell _ (by omega)]; exact k.fed, t.there _ _ k.there⟩, t.mono o 139 (by omega) (by omega)⟩
  · have hj : j < 8 := by
      by_cases hj : j < s.cells.length
      · exact hj
      · rw [List.getElem?_eq_none (by omega)] at hv; cases hv
    rw [t.cell _ (by omega)]
    exact k.st j v hv
  · by_cases hin : u ≤ i ∧ i < u + xs.length
    · rw [if_pos hin]
      have := World.rangeAt_setCells_same w g (o + 10 + u) (cellsU8 xs) (fun j hj => by have := k.there (10 + u + j) (by omega); rw [← Nat.add_assoc, ← Nat.add_assoc] at this; exact this) (i - u) (.int .u8 (xs.getD (i - u) 0)) (by simp [cellsU8, List.getD, List.getElem?_eq_getElem (show i - u < xs.length by omega)])
      rw [show o + 10 + u + (i - u) = o + 10 + i by omega] at this
      exact this
    · rw [if_neg hin, t.cell _ (by omega)]
      exact k.half i hi
theorem TK.sm {w v : World} {g o : Nat} {h : Int} {wd : Bool} {s : Eight} {half : Nat → Int} {fed : Nat} (k : TK w g o h wd s half fed) (t : Sm w v) : TK v g o h wd s half fed :=
  ⟨by rw [t.cell]; exact k.hash, by rw [t.cell]; exact k.fn, fun j v hv => by rw [t.cell]; exact k.st j v hv, fun i hi => by rw [t.cell]; exact k.half i hi, by rw [t.cell]; exact k.fed, (t.touch g 0 0).there _ _ k.there⟩
theorem Sm.drew {w v : World} (h : Sm w v) : Sm w v.drew := ⟨h.os, h.tape, h.output, h.heap⟩
theorem Sm.view {w v : World} {x : Value} {zs : List Int} (h : Sm w v) (hv : View w x zs) : View v x zs := hv.kept fun k _ => by rw [h.heap]
theorem Sm.tables {w v : World} (h : Sm w v) (hv : Tables w) : Tables v := hv.kept fun k _ => by rw [h.heap]
/-- A slice's bytes that lie outside what is touched. -/
theorem Touch.view {w v : World} {g o n : Nat} (h : Touch w v g o n) {x : Value} {zs : List Int} (hv : View w x zs) (ha : Apart x g o n) : View v x zs := by
  obtain ⟨a, cap, rfl, h1, h2, h3, h4⟩ := hv
  refine ⟨a, cap, rfl, h1, h2, h3, ?_⟩
  rcases h4 with rfl | ⟨b, p, rfl, hc⟩
  · exact .inl rfl
  · refine .inr ⟨b, p, rfl, fun i hi => ?_⟩
    exact h.outside (hc i hi) (by rcases ha _ _ _ _ rfl with e | e; exact .inl e; exact .inr (by omega))
theorem view_take {w : World} {b p n cap m : Nat} {zs : List Int} (hv : View w (.slice (some ⟨b, p, none⟩) n cap) zs) (hm : m ≤ n) : View w (.slice (some ⟨b, p, none⟩) m cap) (zs.take m) := by
  obtain ⟨a, c, he, h1, h2, h3, h4⟩ := hv
  cases he
  have hl : (zs.take m).length = m := by simp; omega
  refine ⟨some ⟨b, p, none⟩, cap, by rw [hl], by omega, h2, h3, ?_⟩
  rcases h4 with rfl | ⟨b', p', e, hc⟩
  · exact .inl (by simp)
  · cases e
    refine .inr ⟨b, p, rfl, fun i hi => ?_⟩
    rw [hc i (by omega)]
    simp [List.getD, List.getElem?_take, show i < m by omega]
theorem view_drop {w : World} {b p n cap m : Nat} {zs : List Int} (hv : View w (.slice (some ⟨b, p, none⟩) n cap) zs) (hm : m ≤ n) : View w (.slice (if cap = m then some ⟨b, p, none⟩ else some ⟨b, p + m, none⟩) (n - m) (cap - m)) (zs.drop m) := by
  obtain ⟨a, c, he, h1, h2, h3, h4⟩ := hv
  cases he
  have hl : (zs.drop m).length = zs.length - m := by simp
  refine ⟨_, cap - m, by rw [hl], by omega, by omega, (fun e => by split at e <;> cases e), ?_⟩
  by_cases hz : zs.length = m
  · exact .inl (by rw [List.drop_eq_nil_iff]; omega)
  · rcases h4 with rfl | ⟨b', p', e, hc⟩
    · exact .inl (by simp)
    · cases e
      rw [if_neg (by omega)]
      refine .inr ⟨b, p + m, rfl, fun i hi => ?_⟩
      rw [Nat.add_assoc, hc (m + i) (by omega)]
      simp [List.getD]
theorem view_half {w : World} {g o : Nat} {h : Int} {wd : Bool} {s : Eight} {half : Nat → Int} {fed : Nat} (k : TK w g o h wd s half fed) (n : Nat) (hn : n ≤ 128) : View w (.slice (some ⟨g, o + 10, none⟩) n 128) ((List.range n).map half) := by
  refine ⟨some ⟨g, o + 10, none⟩, 128, by simp, by simp; omega, by unfold maxLen; omega, (fun e => by cases e), .inr ⟨g, o + 10, rfl, fun i hi => ?_⟩⟩
  simp at hi
  rw [k.half i (by omega)]
  simp [List.getD, hi]
theorem apart_mono {v : Value} {g o n o' n' : Nat} (h : Apart v g o n) (h1 : o ≤ o') (h2 : o' + n' ≤ o + n) : Apart v g o' n' := fun b off l c e => by
  rcases h b off l c e with h | h
  · exact .inl h
  · exact .inr (by omega)
theorem view_drop2 {w : World} {b p k n cap P : Nat} {zs : List Int} (hv : View w (.slice (some ⟨b, p, none⟩) (k + n) (k + cap)) zs) (hP : P = if cap = 0 then p else p + k) : View w (.slice (some ⟨b, P, none⟩) n cap) (zs.drop k) := by
  have h := view_drop hv (show k ≤ k + n by omega)
  rw [show k + n - k = n by omega, show k + cap - k = cap by omega] at h
  have e : (if k + cap = k then some (⟨b, p, none⟩ : Addr) else some ⟨b, p + k, none⟩) = some ⟨b, P, none⟩ := by
    rw [hP]
    by_cases h0 : cap = 0
    · rw [if_pos (by omega), if_pos h0]
    · rw [if_neg (by omega), if_neg h0]
  rw [e] at h
  exact h
theorem apart_drop2 {b p k n cap P g o m : Nat} (h : Apart (.slice (some ⟨b, p, none⟩) (k + n) (k + cap)) g o m) (hn : n ≤ cap) (hP : P = if cap = 0 then p else p + k) : Apart (.slice (some ⟨b, P, none⟩) n cap) g o m := fun b' off l c e => by
  injection e with e1 e2 e3
  injection e1 with e1
  injection e1 with e4 e5
  subst e4 e5 e2 e3
  rcases h _ _ _ _ rfl with h | h
  · exact .inl h
  · right
    subst hP
    split <;> omega
theorem apart_take {b p n cap m g o k : Nat} (h : Apart (.slice (some ⟨b, p, none⟩) n cap) g o k) (hm : m ≤ n) : Apart (.slice (some ⟨b, p, none⟩) m cap) g o k := fun b' off l c e => by
  cases e
  rcases h _ _ _ _ rfl with h | h
  · exact .inl h
  · exact .inr (by omega)
theorem view_bounds {w : World} {a : Option Addr} {n c : Nat} {zs : List Int} (hv : View w (.slice a n c) zs) : zs.length = n ∧ n ≤ c ∧ c ≤ 9223372036854775807 := by
  obtain ⟨_, _, e, h1, h2, _⟩ := hv
  injection e with e1 e2 e3
  unfold maxLen at h2
  omega
/-- copy, into memory that can be written. -/
theorem copy_eq (w : World) (g o dl dc : Nat) (x : Option Addr) (m c k : Nat) (xs : List Int) (hk : k = min m dl) (hv : View w (.slice x m c) xs) (ht : w.there g o k) :
    (Builtin.copy_ #[23, 23] 3 #[.slice (some ⟨g, o, none⟩) dl dc, .slice x m c]).run Tryd.prog w = .ok (.int .i64 k) (w.setCells g o (cellsU8 (xs.take k))) := by
  obtain ⟨a, cap, he, h1, h2, h3, h4⟩ := hv
  cases he
  have hl : (cellsU8 (xs.take k)).length = k := by rw [cellsU8_length]; simp; omega
  by_cases h0 : k = 0
  · subst h0
    exact run_copy_none (P := Tryd.prog) w 23 23 3 5 (some ⟨g, o, none⟩) x dl dc xs.length c Tryd.underlying23 (by kernel_rfl) (by show min _ _ = 0; omega)
  · rcases h4 with rfl | ⟨b, p, rfl, hc⟩
    · exfalso; simp at hk; omega
    · have := run_copy_cells (P := Tryd.prog) w 23 23 3 5 g o dl dc ⟨b, p, none⟩ xs.length c (cellsU8 (xs.take k)) Tryd.underlying23 (by kernel_rfl) (by rw [hl]; show k = min _ _; omega) (by
        refine cellsU8_at (xs.take k) w b p fun i hi => ?_
        rw [hc i (by simp at hi; omega)]
        simp at hi
        simp [List.getD, List.getElem?_take, show i < k by omega]) (fun j hj => (ht j (by omega)).1) (fun j hj => (ht j (by omega)).2) (by
        intro v hv
        simp only [cellsU8, List.mem_map] at hv
        obtain ⟨z, _, rfl⟩ := hv
        rfl)
      rw [hl] at this
      exact this

set_option maxHeartbeats 3200000 in
set_option maxRecDepth 100000 in
theorem add_zero64 (g o : Nat) (h : Int) (s : Eight) (half : Nat → Int) (fed n wh cap b p : Nat) (zs : List Int) (w : World) (hblk : blockOf h = 64) (HK : Hid (TK w g o h false s half fed)) (hn : Hid (zs.length = n)) (hfn : fed + n ≤ 4611686018427387904)
    (hv : Hid (View w (.slice (some ⟨b, p, none⟩) n cap) zs)) (hsep : Hid (Apart (.slice (some ⟨b, p, none⟩) n cap) g o 139)) (hT : Hid (Tables w)) (hg : 4 ≤ g) (h0 : Hid (fed % 64 = 0)) (hq : Hid (n = wh + n % 64)) :
    Calls Tryd.prog 83 #[.pointer (some ⟨g, o, none⟩), .slice (some ⟨b, p, none⟩) n cap] w fun e w' => e = .returned (.tuple #[]) ∧ Touch w w' g o 139 ∧ TK w' g o h false (TT false (fun i => (zs.take wh).getD i 0) s (wh / 64)) (fun i => if 0 ≤ i ∧ i < 0 + (zs.drop wh).length then (zs.drop wh).getD (i - 0) 0 else half i) (fed + n) := by
  have c0 := HK.out.hash
  have c138 := HK.out.fed
  have f138 : w.frozen? ⟨g, o + 138, none⟩ = false := (HK.out.there 138 (by omega)).2
  have hgw : g < w.heap.size := lt_of_cell c0
  have r0 : ((fed : Int) % 64) = 0 := by have := h0.out; omega
  have r1 : ((n : Int) - (n : Int) % 64) = (wh : Int) := by have := hq.out; omega
  have hwn : (wh : Int) ≤ (n : Int) := by have := hq.out; omega
  have hnc : n ≤ cap := by have := view_bounds hv.out; omega
  have hwc : (wh : Int) ≤ (cap : Int) := by omega
  have hw0 : (0 : Int) ≤ (wh : Int) := by omega
  have hcm : cap ≤ 9223372036854775807 := (view_bounds hv.out).2.2
  go_enter Tryd.func83, Tryd.ntmps83
  go_wp2_with (first | (go_at_call 79; refine (block_any _ _).mono ?_; rintro e1 w1 ⟨rfl, hw1⟩; obtain rfl := hw1.symm; rw [hblk]))
  have HT1 : Hid (Touch w (w.setCell ⟨g, o + 138, none⟩ (.int .u64 (fed + n))) g o 139) := (Touch.refl _ _ _ _).setCell _ _ (by omega) (by omega)
  have HK1 : Hid (TK (w.setCell ⟨g, o + 138, none⟩ (.int .u64 (fed + n))) g o h false s half (fed + n)) := HK.out.setFed _ _ (by simp)
  generalize w.setCell ⟨g, o + 138, none⟩ (.int .u64 (fed + n)) = w1 at HT1 HK1 ⊢
  clear c0 c138 f138
  have c1' : w1.cell? ⟨g, o + 1, none⟩ = some (.func (.func 80) #[] #[]) := HK1.out.fn
  have HA : Hid (∀ v, Sm w1 v → Calls Tryd.prog 80 #[.pointer (some ⟨g, o + 2, none⟩), .slice (some ⟨b, p, none⟩) wh cap] v fun e w' => e = .returned (.tuple #[]) ∧ Touch w w' g o 139 ∧ TK w' g o h false (TT false (fun i => (zs.take wh).getD i 0) s (wh / 64)) half (fed + n)) := by
    intro v hsm
    have hs1 := HT1.out.size
    have hl : (zs.take wh).length = wh := by have := hn.out; simp; omega
    refine (take_any false g (o + 2) _ (zs.take wh) s v (by rw [hsm.heap]; omega) (HK1.out.sm hsm).st (fun j hj => by have := (HK1.out.sm hsm).there (2 + j) (by omega); rw [← Nat.add_assoc] at this; exact this) (view_take (hsm.view (HT1.out.view hv.out hsep.out)) (by omega)) (apart_mono (apart_take hsep.out (by omega)) (by omega) (by omega)) (hsm.tables (hT.out.touch HT1.out hg)) hg).mono ?_
    rintro e w' ⟨rfl, ht', hr'⟩
    rw [hl] at hr'
    refine ⟨rfl, HT1.out.trans ((hsm.touch g o 139).trans (ht'.mono o 139 (by omega) (by omega))), (HK1.out.sm hsm).words ht' hr'⟩
  go_region_held3 (fun v => v.cell? ⟨g, o + 1, none⟩ = some (.func (.func 80) #[] #[])) (first | go_keep | exact hk2.fn) ((go_at_call 80; refine (HA.out w1.drew (Sm.refl w1).drew).mono ?_; rintro e2 w2 ⟨rfl, ht2, hk2⟩))
  have HT2 : Hid (Touch w w2 g o 139) := ht2
  have HK2 : Hid (TK w2 g o h false (TT false (fun i => (zs.take wh).getD i 0) s (wh / 64)) half (fed + n)) := hk2
  obtain ⟨X, hX⟩ : ∃ X, X = (if cap = wh then some (⟨b, p, none⟩ : Addr) else some ⟨b, p + wh, none⟩) := ⟨_, rfl⟩
  have hcp : (Builtin.copy_ #[23, 23] 3 #[.slice (some ⟨g, o + 10, none⟩) 64 128, .slice X (n - wh) (cap - wh)]).run Tryd.prog w2.drew = .ok (.int .i64 ((n - wh : Nat) : Int)) (w2.drew.setCells g (o + 10) (cellsU8 ((zs.drop wh).take (n - wh)))) := by
    have hv2 := view_drop (HT2.out.view hv.out hsep.out) (show wh ≤ n by omega)
    rw [← hX] at hv2
    refine copy_eq w2.drew g (o + 10) 64 128 X (n - wh) (cap - wh) (n - wh) (zs.drop wh) ?_ hv2 (fun j hj => ?_)
    · have := hq.out; omega
    · have := HK2.out.there (10 + j) (by have := hq.out; omega)
      rw [← Nat.add_assoc] at this
      exact this
  rw [eq_comm] at hX
  clear ht2 hk2 HA c1' HT1 HK1
  go_wp2
  go_region
  go_wp2
  go_end0
  have hl : (zs.drop wh).length = n - wh := by have := hn.out; simp; omega
  have hx := (HK2.out.sm (Sm.refl w2).drew).setHalf 0 (zs.drop wh) (by have := hq.out; omega)
  rw [List.take_of_length_le (by omega)]
  exact ⟨rfl, (HT2.out.drew).trans hx.2, hx.1⟩

set_option maxHeartbeats 3200000 in
set_option maxRecDepth 100000 in
theorem add_few64 (g o : Nat) (h : Int) (s : Eight) (half : Nat → Int) (fed n used cap b p : Nat) (zs : List Int) (w : World) (hblk : blockOf h = 64) (HK : Hid (TK w g o h false s half fed)) (hn : Hid (zs.length = n)) (hfn : fed + n ≤ 4611686018427387904)
    (hv : Hid (View w (.slice (some ⟨b, p, none⟩) n cap) zs)) (hsep : Hid (Apart (.slice (some ⟨b, p, none⟩) n cap) g o 139)) (hg : 4 ≤ g) (h0 : Hid (fed % 64 = used)) (hu0 : 0 < used) (hu1 : used + n < 64) :
    Calls Tryd.prog 83 #[.pointer (some ⟨g, o, none⟩), .slice (some ⟨b, p, none⟩) n cap] w fun e w' => e = .returned (.tuple #[]) ∧ Touch w w' g o 139 ∧ TK w' g o h false s (fun i => if used ≤ i ∧ i < used + zs.length then zs.getD (i - used) 0 else half i) (fed + n) := by
  have c0 := HK.out.hash
  have c138 := HK.out.fed
  have f138 : w.frozen? ⟨g, o + 138, none⟩ = false := (HK.out.there 138 (by omega)).2
  have hgw : g < w.heap.size := lt_of_cell c0
  have r0 : ((fed : Int) % 64) = (used : Int) := by have := h0.out; omega
  have hu2 : (0 : Int) < (used : Int) := by omega
  have hu3 : (used : Int) + (n : Int) < 64 := by omega
  have hu4 : (used : Int) ≤ 64 := by omega
  have HT1 : Hid (Touch w (w.setCell ⟨g, o + 138, none⟩ (.int .u64 (fed + n))) g o 139) := (Touch.refl _ _ _ _).setCell _ _ (by omega) (by omega)
  have HK1 : Hid (TK (w.setCell ⟨g, o + 138, none⟩ (.int .u64 (fed + n))) g o h false s half (fed + n)) := HK.out.setFed _ _ (by simp)
  have hcp : (Builtin.copy_ #[23, 23] 3 #[.slice (some ⟨g, o + 10 + used, none⟩) (64 - used) (128 - used), .slice (some ⟨b, p, none⟩) n cap]).run Tryd.prog (w.setCell ⟨g, o + 138, none⟩ (.int .u64 (fed + n))) = .ok (.int .i64 n) ((w.setCell ⟨g, o + 138, none⟩ (.int .u64 (fed + n))).setCells g (o + 10 + used) (cellsU8 (zs.take n))) := by
    refine copy_eq _ g (o + 10 + used) _ _ _ n cap n zs (by omega) (HT1.out.view hv.out hsep.out) (fun j hj => ?_)
    have := HK1.out.there (10 + used + j) (by omega)
    rw [← Nat.add_assoc, ← Nat.add_assoc] at this
    exact this
  go_enter Tryd.func83, Tryd.ntmps83
  go_wp2_with (first | (go_at_call 79; refine (block_any _ _).mono ?_; rintro e1 w1 ⟨rfl, hw1⟩; obtain rfl := hw1.symm; rw [hblk]))
  refine bodyPost_ret (results_none rfl _ _ _) rfl ?_
  have hl := hn.out
  rw [List.take_of_length_le (by omega)]
  have hx := HK1.out.setHalf used zs (by omega)
  exact ⟨rfl, HT1.out.trans hx.2, hx.1⟩

set_option maxHeartbeats 3200000 in
set_option maxRecDepth 100000 in
theorem add_many64 (g o : Nat) (h : Int) (s : Eight) (half : Nat → Int) (fed k n wh used cap b p : Nat) (zs : List Int) (w : World) (hblk : blockOf h = 64) (HK : Hid (TK w g o h false s half fed)) (hn : Hid (zs.length = k + n)) (hfn : fed + (k + n) ≤ 4611686018427387904)
    (hv : Hid (View w (.slice (some ⟨b, p, none⟩) (k + n) (k + cap)) zs)) (hsep : Hid (Apart (.slice (some ⟨b, p, none⟩) (k + n) (k + cap)) g o 139)) (hT : Hid (Tables w)) (hg : 4 ≤ g) (h0 : Hid (fed % 64 = used)) (hu0 : 0 < used) (hu1 : used + k = 64) (hq : Hid (n = wh + n % 64)) :
    Calls Tryd.prog 83 #[.pointer (some ⟨g, o, none⟩), .slice (some ⟨b, p, none⟩) (k + n) (k + cap)] w fun e w' => e = .returned (.tuple #[]) ∧ Touch w w' g o 139 ∧ ∃ s1, s1 = TT false (fun i => if used ≤ i ∧ i < used + (zs.take k).length then (zs.take k).getD (i - used) 0 else half i) s 1 ∧
      TK w' g o h false (TT false (fun i => ((zs.drop k).take wh).getD i 0) s1 (wh / 64)) (fun i => if 0 ≤ i ∧ i < 0 + ((zs.drop k).drop wh).length then ((zs.drop k).drop wh).getD (i - 0) 0 else (fun i => if used ≤ i ∧ i < used + (zs.take k).length then (zs.take k).getD (i - used) 0 else half i) i) (fed + (k + n)) := by
  have c0 := HK.out.hash
  have c138 := HK.out.fed
  have f138 : w.frozen? ⟨g, o + 138, none⟩ = false := (HK.out.there 138 (by omega)).2
  have hgw : g < w.heap.size := lt_of_cell c0
  have hnc : n ≤ cap := by have := view_bounds hv.out; omega
  have hcm : k + cap ≤ 9223372036854775807 := (view_bounds hv.out).2.2
  have r0 : ((fed : Int) % 64) = (used : Int) := by have := h0.out; omega
  have r1 : ((n : Int) - (n : Int) % 64) = (wh : Int) := by have := hq.out; omega
  have hwn : (wh : Int) ≤ (n : Int) := by have := hq.out; omega
  have hwc : (wh : Int) ≤ (cap : Int) := by omega
  have hw0 : (0 : Int) ≤ (wh : Int) := by omega
  have hu2 : (0 : Int) < (used : Int) := by omega
  have hu3 : ¬ ((used : Int) + (k : Int) < 64) := by omega
  have hu4 : (used : Int) ≤ 64 := by omega
  have hk0 : (0 : Int) ≤ (k : Int) := by omega
  have hk1 : (k : Int) ≤ (k : Int) + (n : Int) := by omega
  have HT1 : Hid (Touch w (w.setCell ⟨g, o + 138, none⟩ (.int .u64 (fed + (k + n)))) g o 139) := (Touch.refl _ _ _ _).setCell _ _ (by omega) (by omega)
  have HK1 : Hid (TK (w.setCell ⟨g, o + 138, none⟩ (.int .u64 (fed + (k + n)))) g o h false s half (fed + (k + n))) := HK.out.setFed _ _ (by simp)
  have hl : (zs.take k).length = k := by have := hn.out; simp; omega
  have hcp : (Builtin.copy_ #[23, 23] 3 #[.slice (some ⟨g, o + 10 + used, none⟩) (64 - used) (128 - used), .slice (some ⟨b, p, none⟩) (k + n) (k + cap)]).run Tryd.prog (w.setCell ⟨g, o + 138, none⟩ (.int .u64 (fed + (k + n)))) = .ok (.int .i64 k) ((w.setCell ⟨g, o + 138, none⟩ (.int .u64 (fed + (k + n)))).setCells g (o + 10 + used) (cellsU8 (zs.take k))) := by
    refine copy_eq _ g (o + 10 + used) _ _ _ (k + n) _ k zs (by omega) (HT1.out.view hv.out hsep.out) (fun j hj => ?_)
    have := HK1.out.there (10 + used + j) (by omega)
    rw [← Nat.add_assoc, ← Nat.add_assoc] at this
    exact this
  have hx := HK1.out.setHalf used (zs.take k) (by omega)
  have HT2 : Hid (Touch w ((w.setCell ⟨g, o + 138, none⟩ (.int .u64 (fed + (k + n)))).setCells g (o + 10 + used) (cellsU8 (zs.take k))) g o 139) := HT1.out.trans hx.2
  have HK2 : Hid (TK ((w.setCell ⟨g, o + 138, none⟩ (.int .u64 (fed + (k + n)))).setCells g (o + 10 + used) (cellsU8 (zs.take k))) g o h false s (fun i => if used ≤ i ∧ i < used + (zs.take k).length then (zs.take k).getD (i - used) 0 else half i) (fed + (k + n))) := hx.1
  clear hx
  obtain ⟨H2, hH2⟩ : ∃ H2, H2 = (fun i => if used ≤ i ∧ i < used + (zs.take k).length then (zs.take k).getD (i - used) 0 else half i) := ⟨_, rfl⟩
  rw [← hH2] at HK2 ⊢
  clear hH2
  have hf0 : (used : Int) < 64 → True := fun _ => trivial
  go_enter Tryd.func83, Tryd.ntmps83
  go_wp2_with (first | (go_at_call 79; refine (block_any _ _).mono ?_; rintro e1 w1 ⟨rfl, hw1⟩; obtain rfl := hw1.symm; rw [hblk]))
  generalize (w.setCell ⟨g, o + 138, none⟩ (.int .u64 (fed + (k + n)))).setCells g (o + 10 + used) (cellsU8 (zs.take k)) = w2 at HT2 HK2 hcp ⊢
  clear c0 c138 f138 hcp HT1 HK1
  have c1' : w2.cell? ⟨g, o + 1, none⟩ = some (.func (.func 80) #[] #[]) := HK2.out.fn
  have HA : Hid (∀ v, Sm w2 v → Calls Tryd.prog 80 #[.pointer (some ⟨g, o + 2, none⟩), .slice (some ⟨g, o + 10, none⟩) 64 128] v fun e w' => e = .returned (.tuple #[]) ∧ Touch w w' g o 139 ∧ TK w' g o h false (TT false H2 s 1) H2 (fed + (k + n))) := by
    intro v hsm
    have hs1 := HT2.out.size
    have hk' := HK2.out.sm hsm
    refine (take_any false g (o + 2) _ ((List.range 64).map H2) s v (by rw [hsm.heap]; omega) hk'.st (fun j hj => by have := hk'.there (2 + j) (by omega); rw [← Nat.add_assoc] at this; exact this) (view_half hk' 64 (by omega)) (fun _ _ _ _ e => by injection e with e1 e2 e3; injection e1 with e1; injection e1 with e4 e5; omega) (hsm.tables (hT.out.touch HT2.out hg)) hg).mono ?_
    rintro e w' ⟨rfl, ht', hr'⟩
    rw [show ((List.range 64).map H2).length / bsz false = 1 by simp [bsz], TT_congr false (B' := H2) s 1 (fun j hj => by simp [bsz] at hj; simp [List.getD, hj])] at hr'
    refine ⟨rfl, HT2.out.trans ((hsm.touch g o 139).trans (ht'.mono o 139 (by omega) (by omega))), hk'.words ht' hr'⟩
  go_region_held3 (fun v => v.cell? ⟨g, o + 1, none⟩ = some (.func (.func 80) #[] #[])) (first | go_keep | exact hk3.fn) ((go_at_call 80; refine (HA.out w2.drew (Sm.refl w2).drew).mono ?_; rintro e3 w3 ⟨rfl, ht3, hk3⟩))
  have HT3 : Hid (Touch w w3 g o 139) := ht3
  have HK3 : Hid (TK w3 g o h false (TT false H2 s 1) H2 (fed + (k + n))) := hk3
  clear ht3 hk3 HA c1' HT2 HK2
  obtain ⟨s1, hs1⟩ : ∃ s1, s1 = TT false H2 s 1 := ⟨_, rfl⟩
  rw [← hs1] at HK3
  have HE1 : Hid (s1 = TT false H2 s 1) := hs1
  clear hs1
  obtain ⟨P, hP⟩ : ∃ P, P = (if cap = 0 then p else p + k) := ⟨_, rfl⟩
  have hX : (if cap = 0 then some (⟨b, p, none⟩ : Addr) else some ⟨b, p + k, none⟩) = some ⟨b, P, none⟩ := by rw [hP]; split <;> rfl
  have HV3 : Hid (View w3 (.slice (some ⟨b, P, none⟩) n cap) (zs.drop k)) := view_drop2 (HT3.out.view hv.out hsep.out) hP
  have HS3 : Hid (Apart (.slice (some ⟨b, P, none⟩) n cap) g o 139) := apart_drop2 hsep.out hnc hP
  have hN3 : (zs.drop k).length = n := by have := hn.out; simp; omega
  have HN3 : Hid ((zs.drop k).length = n) := hN3
  clear hN3
  clear hP
  obtain ⟨ys, hys⟩ : ∃ ys, ys = zs.drop k := ⟨_, rfl⟩
  rw [← hys] at HV3 HN3
  have HE2 : Hid (ys = zs.drop k) := hys
  clear hys
  go_wp2
  have c1' : w3.cell? ⟨g, o + 1, none⟩ = some (.func (.func 80) #[] #[]) := HK3.out.fn
  have HA : Hid (∀ v, Sm w3 v → Calls Tryd.prog 80 #[.pointer (some ⟨g, o + 2, none⟩), .slice (some ⟨b, P, none⟩) wh cap] v fun e w' => e = .returned (.tuple #[]) ∧ Touch w3 w' g o 139 ∧ TK w' g o h false (TT false (fun i => (ys.take wh).getD i 0) s1 (wh / 64)) H2 (fed + (k + n))) := by
    intro v hsm
    have hs1 := HT3.out.size
    have hk' := HK3.out.sm hsm
    have hl : (ys.take wh).length = wh := by have := HN3.out; simp; omega
    refine (take_any false g (o + 2) _ (ys.take wh) s1 v (by rw [hsm.heap]; omega) hk'.st (fun j hj => by have := hk'.there (2 + j) (by omega); rw [← Nat.add_assoc] at this; exact this) (view_take (hsm.view HV3.out) (by omega)) (apart_mono (apart_take HS3.out (by omega)) (by omega) (by omega)) (hsm.tables (hT.out.touch HT3.out hg)) hg).mono ?_
    rintro e w' ⟨rfl, ht', hr'⟩
    rw [hl] at hr'
    refine ⟨rfl, (hsm.touch g o 139).trans (ht'.mono o 139 (by omega) (by omega)), hk'.words ht' hr'⟩
  go_region_held3 (fun v => v.cell? ⟨g, o + 1, none⟩ = some (.func (.func 80) #[] #[])) (first | go_keep | exact hk4.fn) ((go_at_call 80; refine (HA.out w3.drew (Sm.refl w3).drew).mono ?_; rintro e4 w4 ⟨rfl, ht4, hk4⟩))
  have HT4 : Hid (Touch w3 w4 g o 139) := ht4
  have HK4 : Hid (TK w4 g o h false (TT false (fun i => (ys.take wh).getD i 0) s1 (wh / 64)) H2 (fed + (k + n))) := hk4
  obtain ⟨X, hX2⟩ : ∃ X, X = (if cap = wh then some (⟨b, P, none⟩ : Addr) else some ⟨b, P + wh, none⟩) := ⟨_, rfl⟩
  have hcp : (Builtin.copy_ #[23, 23] 3 #[.slice (some ⟨g, o + 10, none⟩) 64 128, .slice X (n - wh) (cap - wh)]).run Tryd.prog w4.drew = .ok (.int .i64 ((n - wh : Nat) : Int)) (w4.drew.setCells g (o + 10) (cellsU8 ((ys.drop wh).take (n - wh)))) := by
    have hv2 := view_drop (HT4.out.view HV3.out HS3.out) (show wh ≤ n by omega)
    rw [← hX2] at hv2
    refine copy_eq w4.drew g (o + 10) 64 128 X (n - wh) (cap - wh) (n - wh) (ys.drop wh) ?_ hv2 (fun j hj => ?_)
    · have := hq.out; omega
    · have := HK4.out.there (10 + j) (by have := hq.out; omega)
      rw [← Nat.add_assoc] at this
      exact this
  rw [eq_comm] at hX2
  clear ht4 hk4 HA c1'
  go_wp2
  go_region
  go_wp2
  go_end0
  have hl : (ys.drop wh).length = n - wh := by have := HN3.out; simp; omega
  have hx := (HK4.out.sm (Sm.refl w4).drew).setHalf 0 (ys.drop wh) (by have := hq.out; omega)
  rw [List.take_of_length_le (by omega)]
  have e1 := HE1.out
  have e2 := HE2.out
  subst e1 e2
  exact ⟨rfl, (HT3.out.trans HT4.out.drew).trans hx.2, _, rfl, hx.1⟩

set_option maxHeartbeats 3200000 in
set_option maxRecDepth 100000 in
theorem add_zero128 (g o : Nat) (h : Int) (s : Eight) (half : Nat → Int) (fed n wh cap b p : Nat) (zs : List Int) (w : World) (hblk : blockOf h = 128) (HK : Hid (TK w g o h true s half fed)) (hn : Hid (zs.length = n)) (hfn : fed + n ≤ 4611686018427387904)
    (hv : Hid (View w (.slice (some ⟨b, p, none⟩) n cap) zs)) (hsep : Hid (Apart (.slice (some ⟨b, p, none⟩) n cap) g o 139)) (hT : Hid (Tables w)) (hg : 4 ≤ g) (h0 : Hid (fed % 128 = 0)) (hq : Hid (n = wh + n % 128)) :
    Calls Tryd.prog 83 #[.pointer (some ⟨g, o, none⟩), .slice (some ⟨b, p, none⟩) n cap] w fun e w' => e = .returned (.tuple #[]) ∧ Touch w w' g o 139 ∧ TK w' g o h true (TT true (fun i => (zs.take wh).getD i 0) s (wh / 128)) (fun i => if 0 ≤ i ∧ i < 0 + (zs.drop wh).length then (zs.drop wh).getD (i - 0) 0 else half i) (fed + n) := by
  have c0 := HK.out.hash
  have c138 := HK.out.fed
  have f138 : w.frozen? ⟨g, o + 138, none⟩ = false := (HK.out.there 138 (by omega)).2
  have hgw : g < w.heap.size := lt_of_cell c0
  have r0 : ((fed : Int) % 128) = 0 := by have := h0.out; omega
  have r1 : ((n : Int) - (n : Int) % 128) = (wh : Int) := by have := hq.out; omega
  have hwn : (wh : Int) ≤ (n : Int) := by have := hq.out; omega
  have hnc : n ≤ cap := by have := view_bounds hv.out; omega
  have hwc : (wh : Int) ≤ (cap : Int) := by omega
  have hw0 : (0 : Int) ≤ (wh : Int) := by omega
  have hcm : cap ≤ 9223372036854775807 := (view_bounds hv.out).2.2
  go_enter Tryd.func83, Tryd.ntmps83
  go_wp2_with (first | (go_at_call 79; refine (block_any _ _).mono ?_; rintro e1 w1 ⟨rfl, hw1⟩; obtain rfl := hw1.symm; rw [hblk]))
  have HT1 : Hid (Touch w (w.setCell ⟨g, o + 138, none⟩ (.int .u64 (fed + n))) g o 139) := (Touch.refl _ _ _ _).setCell _ _ (by omega) (by omega)
  have HK1 : Hid (TK (w.setCell ⟨g, o + 138, none⟩ (.int .u64 (fed + n))) g o h true s half (fed + n)) := HK.out.setFed _ _ (by simp)
  generalize w.setCell ⟨g, o + 138, none⟩ (.int .u64 (fed + n)) = w1 at HT1 HK1 ⊢
  clear c0 c138 f138
  have c1' : w1.cell? ⟨g, o + 1, none⟩ = some (.func (.func 81) #[] #[]) := HK1.out.fn
  have HA : Hid (∀ v, Sm w1 v → Calls Tryd.prog 81 #[.pointer (some ⟨g, o + 2, none⟩), .slice (some ⟨b, p, none⟩) wh cap] v fun e w' => e = .returned (.tuple #[]) ∧ Touch w w' g o 139 ∧ TK w' g o h true (TT true (fun i => (zs.take wh).getD i 0) s (wh / 128)) half (fed + n)) := by
    intro v hsm
    have hs1 := HT1.out.size
    have hl : (zs.take wh).length = wh := by have := hn.out; simp; omega
    refine (take_any true g (o + 2) _ (zs.take wh) s v (by rw [hsm.heap]; omega) (HK1.out.sm hsm).st (fun j hj => by have := (HK1.out.sm hsm).there (2 + j) (by omega); rw [← Nat.add_assoc] at this; exact this) (view_take (hsm.view (HT1.out.view hv.out hsep.out)) (by omega)) (apart_mono (apart_take hsep.out (by omega)) (by omega) (by omega)) (hsm.tables (hT.out.touch HT1.out hg)) hg).mono ?_
    rintro e w' ⟨rfl, ht', hr'⟩
    rw [hl] at hr'
    refine ⟨rfl, HT1.out.trans ((hsm.touch g o 139).trans (ht'.mono o 139 (by omega) (by omega))), (HK1.out.sm hsm).words ht' hr'⟩
  go_region_held3 (fun v => v.cell? ⟨g, o + 1, none⟩ = some (.func (.func 81) #[] #[])) (first | go_keep | exact hk2.fn) ((go_at_call 81; refine (HA.out w1.drew (Sm.refl w1).drew).mono ?_; rintro e2 w2 ⟨rfl, ht2, hk2⟩))
  have HT2 : Hid (Touch w w2 g o 139) := ht2
  have HK2 : Hid (TK w2 g o h true (TT true (fun i => (zs.take wh).getD i 0) s (wh / 128)) half (fed + n)) := hk2
  obtain ⟨X, hX⟩ : ∃ X, X = (if cap = wh then some (⟨b, p, none⟩ : Addr) else some ⟨b, p + wh, none⟩) := ⟨_, rfl⟩
  have hcp : (Builtin.copy_ #[23, 23] 3 #[.slice (some ⟨g, o + 10, none⟩) 128 128, .slice X (n - wh) (cap - wh)]).run Tryd.prog w2.drew = .ok (.int .i64 ((n - wh : Nat) : Int)) (w2.drew.setCells g (o + 10) (cellsU8 ((zs.drop wh).take (n - wh)))) := by
    have hv2 := view_drop (HT2.out.view hv.out hsep.out) (show wh ≤ n by omega)
    rw [← hX] at hv2
    refine copy_eq w2.drew g (o + 10) 128 128 X (n - wh) (cap - wh) (n - wh) (zs.drop wh) ?_ hv2 (fun j hj => ?_)
    · have := hq.out; omega
    · have := HK2.out.there (10 + j) (by have := hq.out; omega)
      rw [← Nat.add_assoc] at this
      exact this
  rw [eq_comm] at hX
  clear ht2 hk2 HA c1' HT1 HK1
  go_wp2
  go_region
  go_wp2
  go_end0
  have hl : (zs.drop wh).length = n - wh := by have := hn.out; simp; omega
  have hx := (HK2.out.sm (Sm.refl w2).drew).setHalf 0 (zs.drop wh) (by have := hq.out; omega)
  rw [List.take_of_length_le (by omega)]
  exact ⟨rfl, (HT2.out.drew).trans hx.2, hx.1⟩

set_option maxHeartbeats 3200000 in
set_option maxRecDepth 100000 in
theorem add_few128 (g o : Nat) (h : Int) (s : Eight) (half : Nat → Int) (fed n used cap b p : Nat) (zs : List Int) (w : World) (hblk : blockOf h = 128) (HK : Hid (TK w g o h true s half fed)) (hn : Hid (zs.length = n)) (hfn : fed + n ≤ 4611686018427387904)
    (hv : Hid (View w (.slice (some ⟨b, p, none⟩) n cap) zs)) (hsep : Hid (Apart (.slice (some ⟨b, p, none⟩) n cap) g o 139)) (hg : 4 ≤ g) (h0 : Hid (fed % 128 = used)) (hu0 : 0 < used) (hu1 : used + n < 128) :
    Calls Tryd.prog 83 #[.pointer (some ⟨g, o, none⟩), .slice (some ⟨b, p, none⟩) n cap] w fun e w' => e = .returned (.tuple #[]) ∧ Touch w w' g o 139 ∧ TK w' g o h true s (fun i => if used ≤ i ∧ i < used + zs.length then zs.getD (i - used) 0 else half i) (fed + n) := by
  have c0 := HK.out.hash
  have c138 := HK.out.fed
  have f138 : w.frozen? ⟨g, o + 138, none⟩ = false := (HK.out.there 138 (by omega)).2
  have hgw : g < w.heap.size := lt_of_cell c0
  have r0 : ((fed : Int) % 128) = (used : Int) := by have := h0.out; omega
  have hu2 : (0 : Int) < (used : Int) := by omega
  have hu3 : (used : Int) + (n : Int) < 128 := by omega
  have hu4 : (used : Int) ≤ 128 := by omega
  have HT1 : Hid (Touch w (w.setCell ⟨g, o + 138, none⟩ (.int .u64 (fed + n))) g o 139) := (Touch.refl _ _ _ _).setCell _ _ (by omega) (by omega)
  have HK1 : Hid (TK (w.setCell ⟨g, o + 138, none⟩ (.int .u64 (fed + n))) g o h true s half (fed + n)) := HK.out.setFed _ _ (by simp)
  have hcp : (Builtin.copy_ #[23, 23] 3 #[.slice (some ⟨g, o + 10 + used, none⟩) (128 - used) (128 - used), .slice (some ⟨b, p, none⟩) n cap]).run Tryd.prog (w.setCell ⟨g, o + 138, none⟩ (.int .u64 (fed + n))) = .ok (.int .i64 n) ((w.setCell ⟨g, o + 138, none⟩ (.int .u64 (fed + n))).setCells g (o + 10 + used) (cellsU8 (zs.take n))) := by
    refine copy_eq _ g (o + 10 + used) _ _ _ n cap n zs (by omega) (HT1.out.view hv.out hsep.out) (fun j hj => ?_)
    have := HK1.out.there (10 + used + j) (by omega)
    rw [← Nat.add_assoc, ← Nat.add_assoc] at this
    exact this
  go_enter Tryd.func83, Tryd.ntmps83
  go_wp2_with (first | (go_at_call 79; refine (block_any _ _).mono ?_; rintro e1 w1 ⟨rfl, hw1⟩; obtain rfl := hw1.symm; rw [hblk]))
  refine bodyPost_ret (results_none rfl _ _ _) rfl ?_
  have hl := hn.out
  rw [List.take_of_length_le (by omega)]
  have hx := HK1.out.setHalf used zs (by omega)
  exact ⟨rfl, HT1.out.trans hx.2, hx.1⟩

set_option maxHeartbeats 3200000 in
set_option maxRecDepth 100000 in
theorem add_many128 (g o : Nat) (h : Int) (s : Eight) (half : Nat → Int) (fed k n wh used cap b p : Nat) (zs : List Int) (w : World) (hblk : blockOf h = 128) (HK : Hid (TK w g o h true s half fed)) (hn : Hid (zs.length = k + n)) (hfn : fed + (k + n) ≤ 4611686018427387904)
    (hv : Hid (View w (.slice (some ⟨b, p, none⟩) (k + n) (k + cap)) zs)) (hsep : Hid (Apart (.slice (some ⟨b, p, none⟩) (k + n) (k + cap)) g o 139)) (hT : Hid (Tables w)) (hg : 4 ≤ g) (h0 : Hid (fed % 128 = used)) (hu0 : 0 < used) (hu1 : used + k = 128) (hq : Hid (n = wh + n % 128)) :
    Calls Tryd.prog 83 #[.pointer (some ⟨g, o, none⟩), .slice (some ⟨b, p, none⟩) (k + n) (k + cap)] w fun e w' => e = .returned (.tuple #[]) ∧ Touch w w' g o 139 ∧ ∃ s1, s1 = TT true (fun i => if used ≤ i ∧ i < used + (zs.take k).length then (zs.take k).getD (i - used) 0 else half i) s 1 ∧
      TK w' g o h true (TT true (fun i => ((zs.drop k).take wh).getD i 0) s1 (wh / 128)) (fun i => if 0 ≤ i ∧ i < 0 + ((zs.drop k).drop wh).length then ((zs.drop k).drop wh).getD (i - 0) 0 else (fun i => if used ≤ i ∧ i < used + (zs.take k).length then (zs.take k).getD (i - used) 0 else half i) i) (fed + (k + n)) := by
  have c0 := HK.out.hash
  have c138 := HK.out.fed
  have f138 : w.frozen? ⟨g, o + 138, none⟩ = false := (HK.out.there 138 (by omega)).2
  have hgw : g < w.heap.size := lt_of_cell c0
  have hnc : n ≤ cap := by have := view_bounds hv.out; omega
  have hcm : k + cap ≤ 9223372036854775807 := (view_bounds hv.out).2.2
  have r0 : ((fed : Int) % 128) = (used : Int) := by have := h0.out; omega
  have r1 : ((n : Int) - (n : Int) % 128) = (wh : Int) := by have := hq.out; omega
  have hwn : (wh : Int) ≤ (n : Int) := by have := hq.out; omega
  have hwc : (wh : Int) ≤ (cap : Int) := by omega
  have hw0 : (0 : Int) ≤ (wh : Int) := by omega
  have hu2 : (0 : Int) < (used : Int) := by omega
  have hu3 : ¬ ((used : Int) + (k : Int) < 128) := by omega
  have hu4 : (used : Int) ≤ 128 := by omega
  have hk0 : (0 : Int) ≤ (k : Int) := by omega
  have hk1 : (k : Int) ≤ (k : Int) + (n : Int) := by omega
  have HT1 : Hid (Touch w (w.setCell ⟨g, o + 138, none⟩ (.int .u64 (fed + (k + n)))) g o 139) := (Touch.refl _ _ _ _).setCell _ _ (by omega) (by omega)
  have HK1 : Hid (TK (w.setCell ⟨g, o + 138, none⟩ (.int .u64 (fed + (k + n)))) g o h true s half (fed + (k + n))) := HK.out.setFed _ _ (by simp)
  have hl : (zs.take k).length = k := by have := hn.out; simp; omega
  have hcp : (Builtin.copy_ #[23, 23] 3 #[.slice (some ⟨g, o + 10 + used, none⟩) (128 - used) (128 - used), .slice (some ⟨b, p, none⟩) (k + n) (k + cap)]).run Tryd.prog (w.setCell ⟨g, o + 138, none⟩ (.int .u64 (fed + (k + n)))) = .ok (.int .i64 k) ((w.setCell ⟨g, o + 138, none⟩ (.int .u64 (fed + (k + n)))).setCells g (o + 10 + used) (cellsU8 (zs.take k))) := by
    refine copy_eq _ g (o + 10 + used) _ _ _ (k + n) _ k zs (by omega) (HT1.out.view hv.out hsep.out) (fun j hj => ?_)
    have := HK1.out.there (10 + used + j) (by omega)
    rw [← Nat.add_assoc, ← Nat.add_assoc] at this
    exact this
  have hx := HK1.out.setHalf used (zs.take k) (by omega)
  have HT2 : Hid (Touch w ((w.setCell ⟨g, o + 138, none⟩ (.int .u64 (fed + (k + n)))).setCells g (o + 10 + used) (cellsU8 (zs.take k))) g o 139) := HT1.out.trans hx.2
  have HK2 : Hid (TK ((w.setCell ⟨g, o + 138, none⟩ (.int .u64 (fed + (k + n)))).setCells g (o + 10 + used) (cellsU8 (zs.take k))) g o h true s (fun i => if used ≤ i ∧ i < used + (zs.take k).length then (zs.take k).getD (i - used) 0 else half i) (fed + (k + n))) := hx.1
  clear hx
  obtain ⟨H2, hH2⟩ : ∃ H2, H2 = (fun i => if used ≤ i ∧ i < used + (zs.take k).length then (zs.take k).getD (i - used) 0 else half i) := ⟨_, rfl⟩
  rw [← hH2] at HK2 ⊢
  clear hH2
  have hf0 : (used : Int) < 128 → True := fun _ => trivial
  go_enter Tryd.func83, Tryd.ntmps83
  go_wp2_with (first | (go_at_call 79; refine (block_any _ _).mono ?_; rintro e1 w1 ⟨rfl, hw1⟩; obtain rfl := hw1.symm; rw [hblk]))
  generalize (w.setCell ⟨g, o + 138, none⟩ (.int .u64 (fed + (k + n)))).setCells g (o + 10 + used) (cellsU8 (zs.take k)) = w2 at HT2 HK2 hcp ⊢
  clear c0 c138 f138 hcp HT1 HK1
  have c1' : w2.cell? ⟨g, o + 1, none⟩ = some (.func (.func 81) #[] #[]) := HK2.out.fn
  have HA : Hid (∀ v, Sm w2 v → Calls Tryd.prog 81 #[.pointer (some ⟨g, o + 2, none⟩), .slice (some ⟨g, o + 10, none⟩) 128 128] v fun e w' => e = .returned (.tuple #[]) ∧ Touch w w' g o 139 ∧ TK w' g o h true (TT true H2 s 1) H2 (fed + (k + n))) := by
    intro v hsm
    have hs1 := HT2.out.size
    have hk' := HK2.out.sm hsm
    refine (take_any true g (o + 2) _ ((List.range 128).map H2) s v (by rw [hsm.heap]; omega) hk'.st (fun j hj => by have := hk'.there (2 + j) (by omega); rw [← Nat.add_assoc] at this; exact this) (view_half hk' 128 (by omega)) (fun _ _ _ _ e => by injection e with e1 e2 e3; injection e1 with e1; injection e1 with e4 e5; omega) (hsm.tables (hT.out.touch HT2.out hg)) hg).mono ?_
    rintro e w' ⟨rfl, ht', hr'⟩
    rw [show ((List.range 128).map H2).length / bsz true = 1 by simp [bsz], TT_congr true (B' := H2) s 1 (fun j hj => by simp [bsz] at hj; simp [List.getD, hj])] at hr'
    refine ⟨rfl, HT2.out.trans ((hsm.touch g o 139).trans (ht'.mono o 139 (by omega) (by omega))), hk'.words ht' hr'⟩
  go_region_held3 (fun v => v.cell? ⟨g, o + 1, none⟩ = some (.func (.func 81) #[] #[])) (first | go_keep | exact hk3.fn) ((go_at_call 81; refine (HA.out w2.drew (Sm.refl w2).drew).mono ?_; rintro e3 w3 ⟨rfl, ht3, hk3⟩))
  have HT3 : Hid (Touch w w3 g o 139) := ht3
  have HK3 : Hid (TK w3 g o h true (TT true H2 s 1) H2 (fed + (k + n))) := hk3
  clear ht3 hk3 HA c1' HT2 HK2
  obtain ⟨s1, hs1⟩ : ∃ s1, s1 = TT true H2 s 1 := ⟨_, rfl⟩
  rw [← hs1] at HK3
  have HE1 : Hid (s1 = TT true H2 s 1) := hs1
  clear hs1
  obtain ⟨P, hP⟩ : ∃ P, P = (if cap = 0 then p else p + k) := ⟨_, rfl⟩
  have hX : (if cap = 0 then some (⟨b, p, none⟩ : Addr) else some ⟨b, p + k, none⟩) = some ⟨b, P, none⟩ := by rw [hP]; split <;> rfl
  have HV3 : Hid (View w3 (.slice (some ⟨b, P, none⟩) n cap) (zs.drop k)) := view_drop2 (HT3.out.view hv.out hsep.out) hP
  have HS3 : Hid (Apart (.slice (some ⟨b, P, none⟩) n cap) g o 139) := apart_drop2 hsep.out hnc hP
  have hN3 : (zs.drop k).length = n := by have := hn.out; simp; omega
  have HN3 : Hid ((zs.drop k).length = n) := hN3
  clear hN3
  clear hP
  obtain ⟨ys, hys⟩ : ∃ ys, ys = zs.drop k := ⟨_, rfl⟩
  rw [← hys] at HV3 HN3
  have HE2 : Hid (ys = zs.drop k) := hys
  clear hys
  go_wp2
  have c1' : w3.cell? ⟨g, o + 1, none⟩ = some (.func (.func 81) #[] #[]) := HK3.out.fn
  have HA : Hid (∀ v, Sm w3 v → Calls Tryd.prog 81 #[.pointer (some ⟨g, o + 2, none⟩), .slice (some ⟨b, P, none⟩) wh cap] v fun e w' => e = .returned (.tuple #[]) ∧ Touch w3 w' g o 139 ∧ TK w' g o h true (TT true (fun i => (ys.take wh).getD i 0) s1 (wh / 128)) H2 (fed + (k + n))) := by
    intro v hsm
    have hs1 := HT3.out.size
    have hk' := HK3.out.sm hsm
    have hl : (ys.take wh).length = wh := by have := HN3.out; simp; omega
    refine (take_any true g (o + 2) _ (ys.take wh) s1 v (by rw [hsm.heap]; omega) hk'.st (fun j hj => by have := hk'.there (2 + j) (by omega); rw [← Nat.add_assoc] at this; exact this) (view_take (hsm.view HV3.out) (by omega)) (apart_mono (apart_take HS3.out (by omega)) (by omega) (by omega)) (hsm.tables (hT.out.touch HT3.out hg)) hg).mono ?_
    rintro e w' ⟨rfl, ht', hr'⟩
    rw [hl] at hr'
    refine ⟨rfl, (hsm.touch g o 139).trans (ht'.mono o 139 (by omega) (by omega)), hk'.words ht' hr'⟩
  go_region_held3 (fun v => v.cell? ⟨g, o + 1, none⟩ = some (.func (.func 81) #[] #[])) (first | go_keep | exact hk4.fn) ((go_at_call 81; refine (HA.out w3.drew (Sm.refl w3).drew).mono ?_; rintro e4 w4 ⟨rfl, ht4, hk4⟩))
  have HT4 : Hid (Touch w3 w4 g o 139) := ht4
  have HK4 : Hid (TK w4 g o h true (TT true (fun i => (ys.take wh).getD i 0) s1 (wh / 128)) H2 (fed + (k + n))) := hk4
  obtain ⟨X, hX2⟩ : ∃ X, X = (if cap = wh then some (⟨b, P, none⟩ : Addr) else some ⟨b, P + wh, none⟩) := ⟨_, rfl⟩
  have hcp : (Builtin.copy_ #[23, 23] 3 #[.slice (some ⟨g, o + 10, none⟩) 128 128, .slice X (n - wh) (cap - wh)]).run Tryd.prog w4.drew = .ok (.int .i64 ((n - wh : Nat) : Int)) (w4.drew.setCells g (o + 10) (cellsU8 ((ys.drop wh).take (n - wh)))) := by
    have hv2 := view_drop (HT4.out.view HV3.out HS3.out) (show wh ≤ n by omega)
    rw [← hX2] at hv2
    refine copy_eq w4.drew g (o + 10) 128 128 X (n - wh) (cap - wh) (n - wh) (ys.drop wh) ?_ hv2 (fun j hj => ?_)
    · have := hq.out; omega
    · have := HK4.out.there (10 + j) (by have := hq.out; omega)
      rw [← Nat.add_assoc] at this
      exact this
  rw [eq_comm] at hX2
  clear ht4 hk4 HA c1'
  go_wp2
  go_region
  go_wp2
  go_end0
  have hl : (ys.drop wh).length = n - wh := by have := HN3.out; simp; omega
  have hx := (HK4.out.sm (Sm.refl w4).drew).setHalf 0 (ys.drop wh) (by have := hq.out; omega)
  rw [List.take_of_length_le (by omega)]
  have e1 := HE1.out
  have e2 := HE2.out
  subst e1 e2
  exact ⟨rfl, (HT3.out.trans HT4.out.drew).trans hx.2, _, rfl, hx.1⟩
end Go.Proofs.YtbpkocohddlbhaaDoor
