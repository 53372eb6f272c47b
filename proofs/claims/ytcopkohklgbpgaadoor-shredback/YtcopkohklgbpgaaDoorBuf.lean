import Derived.Test.YtcopkohklgbpgaaDoorTouch
import Derived.Test.YtcopkohklgbpgaaDoorWhole
import Derived.Lib.SliceRun
import Derived.Deep.Cut
import Derived.Deep.CutRange
namespace Go.Proofs.YtcopkohklgbpgaaDoor
open Go.RowKit
set_option linter.unusedVariables false
set_option linter.unusedSimpArgs false
/-- A buffer at the head of block g: its room, how much of it is used; the stream's cell lies behind. -/
structure Buf (w : World) (g : Nat) (f : Nat → Int) (u : Nat) : Prop where
  room : ∀ i, i < 1024 → w.cell? ⟨g, i, none⟩ = some (.int .u8 (f i))
  used : w.cell? ⟨g, 1024, none⟩ = some (.int .i64 (u : Nat))
  there : w.there g 0 1026
theorem Buf.lt {w : World} {g : Nat} {f : Nat → Int} {u : Nat} (h : Buf w g f u) : g < w.heap.size := by
  have := World.block_lt_of_cell? w _ h.used
  simpa using this
theorem Buf.far {w v : World} {g g' o n u : Nat} {f : Nat → Int} (h : Buf w g f u) (b : Touch w v g' o n) (hne : g ≠ g') : Buf v g f u := by
  have hg := h.lt
  exact ⟨fun i hi => by rw [b.far (p := ⟨g, i, none⟩) hg hne]; exact h.room i hi, by rw [b.far (p := ⟨g, 1024, none⟩) hg hne]; exact h.used, fun j hj => by rw [b.far (p := ⟨g, 0 + j, none⟩) hg hne, b.farFrozen (p := ⟨g, 0 + j, none⟩) hg hne]; exact h.there j hj⟩
theorem Buf.below {w v : World} {g u : Nat} {f : Nat → Int} (h : Buf w g f u) (b : Below w.heap.size w v) : Buf v g f u := by
  have hg := h.lt
  have hc : ∀ p : Addr, p.block = g → v.cell? p = w.cell? p := fun p e => World.cell?_of_block (b.block _ (by rw [e]; exact hg))
  have hf : ∀ p : Addr, p.block = g → v.frozen? p = w.frozen? p := fun p e => World.frozen?_of_block (b.block _ (by rw [e]; exact hg))
  exact ⟨fun i hi => by rw [hc _ rfl]; exact h.room i hi, by rw [hc _ rfl]; exact h.used, fun j hj => by rw [hc _ rfl, hf _ rfl]; exact h.there j hj⟩
/-- A list laid over the first n. -/
def xorF (f : Nat → Int) (z : Nat → Int) (n : Nat) (i : Nat) : Int := if i < n then bits .xor .u8 (f i) (z i) else f i
theorem xorF_succ (f z : Nat → Int) (k : Nat) : xorF f z (k + 1) = fun i => if i = k then bits .xor .u8 (f k) (z k) else xorF f z k i := by
  funext i
  unfold xorF
  by_cases h : i = k
  · subst h; simp
  · by_cases h2 : i < k
    · rw [if_pos (by omega), if_neg h, if_pos h2]
    · rw [if_neg (by omega), if_neg h, if_neg h2]
theorem Buf.set {w : World} {g u k : Nat} {f : Nat → Int} (h : Buf w g f u) (hk : k < 1024) (x : Int) : Buf (w.setCell ⟨g, k, none⟩ (.int .u8 x)) g (fun i => if i = k then x else f i) u := by
  refine ⟨fun i hi => ?_, ?_, fun j hj => ?_⟩
  · by_cases e : i = k
    · subst e
      rw [if_pos rfl]
      exact World.cell?_setCell_same' _ _ _ (by rw [h.room i hi]; rfl)
    · rw [if_neg e, World.cell?_setCell_other _ _ _ _ (by intro q; injection q with _ q2; omega)]
      exact h.room i hi
  · rw [World.cell?_setCell_other _ _ _ _ (by intro q; injection q with _ q2; omega)]
    exact h.used
  · exact World.there_setCells h.there g k [.int .u8 x] j hj
theorem Buf.setUsed {w : World} {g u : Nat} {f : Nat → Int} (h : Buf w g f u) (n : Nat) : Buf (w.setCell ⟨g, 1024, none⟩ (.int .i64 (n : Nat))) g f n := by
  refine ⟨fun i hi => ?_, ?_, fun j hj => ?_⟩
  · rw [World.cell?_setCell_other _ _ _ _ (by intro q; injection q with _ q2; omega)]
    exact h.room i hi
  · exact World.cell?_setCell_same' _ _ _ (by rw [h.used]; rfl)
  · exact World.there_setCells h.there g 1024 [.int .i64 (n : Nat)] j hj
set_option maxHeartbeats 800000 in
set_option maxRecDepth 100000 in
theorem xor_some (g n c b off u : Nat) (f z : Nat → Int) (w : World) (hb : Hid (Buf w g f u)) (hn : n ≤ 1024) (hne : b ≠ g)
    (hc : Hid (∀ i, i < n → w.cell? ⟨b, off + i, none⟩ = some (.int .u8 (z i)))) :
    Calls Tryd.prog 25 #[.pointer (some ⟨g, 0, none⟩), .slice (some ⟨b, off, none⟩) n c] w fun e w' => e = .returned (.tuple #[]) ∧ Buf w' g (xorF f z n) n ∧ Touch w w' g 0 1025 := by
  have hu : w.cell? ⟨g, 1024, none⟩ = some (.int .i64 (u : Nat)) := hb.out.used
  have hfu : w.frozen? ⟨g, 1024, none⟩ = false := by have := (hb.out.there 1024 (by omega)).2; simpa using this
  have HB0 : Hid (Buf (w.setCell ⟨g, 1024, none⟩ (.int .i64 (n : Nat))) g (xorF f z 0) n ∧ Touch w (w.setCell ⟨g, 1024, none⟩ (.int .i64 (n : Nat))) g 0 1025) := ⟨hb.out.setUsed n, (Touch.refl w g 0 1025).setCell 1024 _ (by omega) (by omega)⟩
  go_enter Tryd.func25, Tryd.ntmps25
  go_wp2
  go_loopw [13] (fun i wr => ∃ k : Nat, k ≤ n ∧ i = .int .i64 (k : Nat) ∧ Hid (Buf wr g (xorF f z k) n ∧ Touch w wr g 0 1025)) (fun i _ => n - (intOf i).toNat)
  case atStart => exact ⟨0, Nat.zero_le _, rfl, HB0⟩
  case round =>
    obtain ⟨k, hk, rfl, HB⟩ := hrel
    clear hu hfu HB0
    by_cases hlt : k < n
    · obtain ⟨x, hx⟩ : ∃ x, x = z k := ⟨_, rfl⟩
      obtain ⟨y, hy⟩ : ∃ y, y = f k := ⟨_, rfl⟩
      have g1 : wr.cell? ⟨b, off + k, none⟩ = some (.int .u8 x) := by
        have q := hc.out k hlt
        rw [HB.out.2.far (p := ⟨b, off + k, none⟩) (by have := World.block_lt_of_cell? w _ q; simpa using this) hne, q, hx]
      have g2 : wr.cell? ⟨g, k, none⟩ = some (.int .u8 y) := by
        rw [HB.out.1.room k (by omega), hy]
        simp [xorF]
      have g3 : wr.frozen? ⟨g, k, none⟩ = false := by have := (HB.out.1.there k (by omega)).2; simpa using this
      have HN : Hid (Buf (wr.setCell ⟨g, k, none⟩ (.int .u8 (bits .xor .u8 y x))) g (xorF f z (k + 1)) n ∧ Touch w (wr.setCell ⟨g, k, none⟩ (.int .u8 (bits .xor .u8 y x))) g 0 1025) := by
        refine ⟨?_, HB.out.2.setCell k _ (by omega) (by omega)⟩
        rw [xorF_succ, ← hx, ← hy]
        exact HB.out.1.set (by omega) _
      clear hx hy HB
      go_wp2
      go_region
      all_goals go_wp2
      all_goals go_roundw
      all_goals first
        | (simp [intOf]; omega)
        | exact ⟨k + 1, by omega, by go_num, ⟨⟨HN.out.1.room, HN.out.1.used, HN.out.1.there⟩, HN.out.2.drewN _⟩⟩
    · obtain rfl : k = n := by omega
      go_wp2
      go_end0
      exact ⟨rfl, HB.out⟩
theorem xor_none (g c u : Nat) (a : Option Addr) (f z : Nat → Int) (w : World) (hb : Hid (Buf w g f u)) :
    Calls Tryd.prog 25 #[.pointer (some ⟨g, 0, none⟩), .slice a 0 c] w fun e w' => e = .returned (.tuple #[]) ∧ Buf w' g (xorF f z 0) 0 ∧ Touch w w' g 0 1025 := by
  have hu : w.cell? ⟨g, 1024, none⟩ = some (.int .i64 (u : Nat)) := hb.out.used
  have hfu : w.frozen? ⟨g, 1024, none⟩ = false := by have := (hb.out.there 1024 (by omega)).2; simpa using this
  have HB0 : Hid (Buf (w.setCell ⟨g, 1024, none⟩ (.int .i64 0)) g (xorF f z 0) 0 ∧ Touch w (w.setCell ⟨g, 1024, none⟩ (.int .i64 0)) g 0 1025) := ⟨hb.out.setUsed 0, (Touch.refl w g 0 1025).setCell 1024 _ (by omega) (by omega)⟩
  go_enter Tryd.func25, Tryd.ntmps25
  go_wp2
  go_loop [13] (fun i => i = .int .i64 0) (fun _ => 0)
  case atStart => rfl
  case round =>
    subst hrel
    go_wp2
    go_end0
    exact ⟨rfl, HB0.out⟩
theorem len48 : Tryd.prog.arrayLen 48 = 1024 := by kernel_rfl
theorem elem48 : Tryd.prog.elem 48 = 5 := by kernel_rfl
theorem und48 : Tryd.prog.underlying 48 = some (.array (Tryd.prog.arrayLen 48) (Tryd.prog.elem 48)) := by kernel_rfl
theorem sizeOf5b (w : World) : (Go.sizeOf 5).run Tryd.prog w = .ok 1 w := by kernel_rfl
set_option maxHeartbeats 400000 in
theorem bytes_ok (g u : Nat) (f : Nat → Int) (w : World) (hb : Hid (Buf w g f u)) (hu1 : u ≤ 1024) :
    Calls Tryd.prog 35 #[.pointer (some ⟨g, 0, none⟩)] w fun e w' => e = .returned (.slice (some ⟨g, 0, none⟩) u u) ∧ ∃ m, w' = w.drewN m := by
  have hu : w.cell? ⟨g, 1024, none⟩ = some (.int .i64 (u : Nat)) := hb.out.used
  have hs : ∀ v, (Instr.sliceAt 48 (.pointer (some ⟨g, 0, none⟩)) none (some (.int .i64 (u : Nat))) (some (.int .i64 (u : Nat)))).run Tryd.prog v = .ok (.slice (some ⟨g, 0, none⟩) u u) v := fun v => by
    rw [run_sliceAt_array_hm v 48 ⟨g, 0, none⟩ und48 .i64 .i64 u u (by omega) (by omega) (by rw [len48]; omega), elem48, sizeOf5b]
    simp [Result.andThen, slicedAt, Addr.add]
  clear hb
  go_enter Tryd.func35, Tryd.ntmps35
  go_wp2
  go_quiet (fail)
  go_wp2
  go_ret
  exact ⟨rfl, _, rfl⟩
end Go.Proofs.YtcopkohklgbpgaaDoor
