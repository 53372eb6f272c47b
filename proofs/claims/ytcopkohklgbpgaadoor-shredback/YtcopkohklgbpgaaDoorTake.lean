import Derived.Test.YtcopkohklgbpgaaDoorWide
import Derived.Test.YtcopkohklgbpgaaDoorWhole
namespace Go.Proofs.YtcopkohklgbpgaaDoor
open Go.RowKit
set_option linter.unusedVariables false

/-- The table of the cubes' roots, as a function. -/
def cubesL : List Int := [4794697086780616226, 8158064640168781261, 13096744586834688815, 16840607885511220156, 4131703408338449720, 6480981068601479193, 10538285296894168987, 12329834152419229976, 15566598209576043074, 1334009975649890238, 2608012711638119052, 6128411473006802146, 8268148722764581231, 9286055187155687089, 11230858885718282805, 13951009754708518548, 16472876342353939154, 17275323862435702243, 1135362057144423861, 2597628984639134821, 3308224258029322869, 5365058923640841347, 6679025012923562964, 8573033837759648693, 10970295158949994411, 12119686244451234320, 12683024718118986047, 13788192230050041572, 14330467153632333762, 15395433587784984357, 489312712824947311, 1452737877330783856, 2861767655752347644, 3322285676063803686, 5560940570517711597, 5996557281743188959, 7280758554555802590, 8532644243296465576, 9350256976987008742, 10552545826968843579, 11727347734174303076, 12113106623233404929, 14000437183269869457, 14369950271660146224, 15101387698204529176, 15463397548674623760, 17586052441742319658, 1182934255886127544, 1847814050463011016, 2177327727835720531, 2830643537854262169, 3796741975233480872, 4115178125766777443, 5681478168544905931, 6601373596472566643, 7507060721942968483, 8399075790359081724, 8693463985226723168, 9568029438360202098, 10144078919501101548, 10430055236837252648, 11840083180663258601, 13761210420658862357, 14299343276471374635, 14566680578165727644, 15097957966210449927, 16922976911328602910, 17689382322260857208, 500013540394364858, 748580250866718886, 1242879168328830382, 1977374033974150939, 2944078676154940804, 3659926193048069267, 4368137639120453308, 4836135668995329356, 5532061633213252278, 6448918945643986474, 6902733635092675308, 7801388544844847127]
def rootsL : List Int := [7640891576956012808, 13503953896175478587, 4354685564936845355, 11912009170470909681, 5840696475078001361, 11170449401992604703, 2270897969802886507, 6620516959819538809, 14680500436340154072, 7105036623409894663, 10473403895298186519, 1526699215303891257, 7436329637833083697, 10282925794625328401, 15784041429090275239, 5167115440072839076]
def cubeAt (t : Nat) : Int := cubesL.getD t 0
def rootAt (t : Nat) : Int := rootsL.getD t 0
/-- The two tables lie where the program laid them. -/
structure Tables (w : World) : Prop where
  cubes : ∀ t, t < 80 → w.cell? ⟨3, t, none⟩ = some (.int .u64 (cubeAt t))
  roots : ∀ t, t < 16 → w.cell? ⟨2, t, none⟩ = some (.int .u64 (rootAt t))
theorem Tables.kept {w w' : World} (h : Tables w) (hb : ∀ k, k < 4 → w'.heap[k]? = w.heap[k]?) : Tables w' :=
  ⟨fun t ht => by rw [World.cell?_of_block (w := w) (hb 3 (by omega))]; exact h.cubes t ht, fun t ht => by rw [World.cell?_of_block (w := w) (hb 2 (by omega))]; exact h.roots t ht⟩
theorem Tables.size {w : World} (h : Tables w) : 4 ≤ w.heap.size := lt_of_cell (h.cubes 0 (by omega))
theorem Tables.below {w w' : World} {B : Nat} (h : Tables w) (b : Below B w w') (hB : 4 ≤ B) : Tables w' := h.kept fun k hk => b.block k (by omega)
theorem Tables.touch {w w' : World} {g o n : Nat} (h : Tables w) (b : Touch w w' g o n) (hg : 4 ≤ g) : Tables w' := h.kept fun k hk => b.block k (by have := h.size; omega) (by omega)

def bsz (wd : Bool) : Nat := if wd then 128 else 64
def fnOf (wd : Bool) : FuncId := if wd then 55 else 54
def fnV (wd : Bool) : Value := .func (.func (fnOf wd)) #[] #[]
/-- The words behind n blocks. -/
def TT (wd : Bool) (B : Nat → Int) (s : Eight) (n : Nat) : Eight := if wd then takes64 cubeAt B s n else takes32 cubeAt B s n
theorem bsz_pos (wd : Bool) : 0 < bsz wd := by cases wd <;> decide

theorem TT_zero (wd : Bool) (B : Nat → Int) (s : Eight) : TT wd B s 0 = s := by cases wd <;> rfl
theorem sched32_congr {B B' : Nat → Int} (h : ∀ j, j < 64 → B j = B' j) : ∀ n t, t < n → t < 64 → sched32 B t = sched32 B' t
  | 0, t, h0, _ => by omega
  | n + 1, t, h0, h1 => by
    rw [sched32.eq_def B t, sched32.eq_def B' t]
    by_cases h16 : t < 16
    · rw [if_pos h16, if_pos h16]
      simp only [word32]
      rw [h (4 * t) (by omega), h (4 * t + 1) (by omega), h (4 * t + 2) (by omega), h (4 * t + 3) (by omega)]
    · rw [if_neg h16, if_neg h16, sched32_congr h n (t - 2) (by omega) (by omega), sched32_congr h n (t - 7) (by omega) (by omega), sched32_congr h n (t - 15) (by omega) (by omega), sched32_congr h n (t - 16) (by omega) (by omega)]
theorem rounds32_congr {C W W' : Nat → Int} (s : Eight) : ∀ n, (∀ t, t < n → W t = W' t) → rounds32 C W n s = rounds32 C W' n s
  | 0, _ => rfl
  | n + 1, h => by rw [rounds32, rounds32, rounds32_congr s n (fun t ht => h t (by omega)), h n (by omega)]
theorem block32_congr {C B B' : Nat → Int} (s : Eight) (h : ∀ j, j < 64 → B j = B' j) : block32 C B s = block32 C B' s := by
  rw [block32, block32, rounds32_congr _ 64 (fun t ht => sched32_congr h 64 t ht ht)]
theorem part64_congr {B B' : Nat → Int} (t : Nat) : ∀ k, (∀ j, j < k → B (8 * t + j) = B' (8 * t + j)) → part64 B t k = part64 B' t k
  | 0, _ => rfl
  | k + 1, h => by rw [part64, part64, part64_congr t k (fun j hj => h j (by omega)), h k (by omega)]
theorem sched64_congr {B B' : Nat → Int} (h : ∀ j, j < 128 → B j = B' j) : ∀ n t, t < n → t < 80 → sched64 B t = sched64 B' t
  | 0, t, h0, _ => by omega
  | n + 1, t, h0, h1 => by
    rw [sched64.eq_def B t, sched64.eq_def B' t]
    by_cases h16 : t < 16
    · rw [if_pos h16, if_pos h16, part64_congr t 8 (fun j hj => h _ (by omega))]
    · rw [if_neg h16, if_neg h16, sched64_congr h n (t - 2) (by omega) (by omega), sched64_congr h n (t - 7) (by omega) (by omega), sched64_congr h n (t - 15) (by omega) (by omega), sched64_congr h n (t - 16) (by omega) (by omega)]
theorem rounds64_congr {C W W' : Nat → Int} (s : Eight) : ∀ n, (∀ t, t < n → W t = W' t) → rounds64 C W n s = rounds64 C W' n s
  | 0, _ => rfl
  | n + 1, h => by rw [rounds64, rounds64, rounds64_congr s n (fun t ht => h t (by omega)), h n (by omega)]
theorem block64_congr {C B B' : Nat → Int} (s : Eight) (h : ∀ j, j < 128 → B j = B' j) : block64 C B s = block64 C B' s := by
  rw [block64, block64, rounds64_congr _ 80 (fun t ht => sched64_congr h 80 t ht ht)]
/-- The words hang on the blocks' bytes alone. -/
theorem TT_congr (wd : Bool) {B B' : Nat → Int} (s : Eight) : ∀ n, (∀ j, j < bsz wd * n → B j = B' j) → TT wd B s n = TT wd B' s n
  | 0, _ => by rw [TT_zero, TT_zero]
  | n + 1, h => by
    have ih := TT_congr wd s n (B := B) (B' := B') (fun j hj => h j (by rw [Nat.mul_succ]; omega))
    cases wd
    · simp only [TT, bsz, Bool.false_eq_true, if_false] at ih h ⊢
      rw [takes32, takes32, ih]
      exact block32_congr _ fun j hj => h _ (by omega)
    · simp only [TT, bsz, if_true] at ih h ⊢
      rw [takes64, takes64, ih]
      exact block64_congr _ fun j hj => h _ (by omega)
/-- Blocks behind blocks. -/
theorem TT_add (wd : Bool) (B : Nat → Int) (s : Eight) (i : Nat) : ∀ j, TT wd B s (i + j) = TT wd (fun k => B (bsz wd * i + k)) (TT wd B s i) j
  | 0 => by rw [TT_zero]; rfl
  | j + 1 => by
    have ih := TT_add wd B s i j
    cases wd
    · simp only [TT, bsz, Bool.false_eq_true, if_false] at ih ⊢
      rw [← Nat.add_assoc, takes32, takes32, ← ih]
      exact block32_congr _ fun k hk => by rw [Nat.mul_add, Nat.add_assoc]
    · simp only [TT, bsz, if_true] at ih ⊢
      rw [← Nat.add_assoc, takes64, takes64, ← ih]
      exact block64_congr _ fun k hk => by rw [Nat.mul_add, Nat.add_assoc]

set_option maxHeartbeats 400000 in
theorem narrow_zero (a : Value) (p : Option Addr) (cap : Nat) (w : World) :
    Calls Tryd.prog 54 #[a, .slice p 0 cap] w fun e w' => e = .returned (.tuple #[]) ∧ Below w.heap.size w w' := by
  have hb : Hid (∀ o, Below w.heap.size w (w.alloc o)) := fun o => (Below.refl _ _).alloc (Nat.le_refl _) o
  go_enter Tryd.func54, Tryd.ntmps54
  go_wp2
  go_loop [1] (fun v => v = .slice p 0 cap) (fun _ => 0)
  case atStart => exact rfl
  case round =>
    obtain rfl := hrel
    go_wp2
    go_end0
    exact ⟨rfl, hb.out _⟩
set_option maxHeartbeats 400000 in
theorem wide_zero (a : Value) (p : Option Addr) (cap : Nat) (w : World) :
    Calls Tryd.prog 55 #[a, .slice p 0 cap] w fun e w' => e = .returned (.tuple #[]) ∧ Below w.heap.size w w' := by
  have hb : Hid (∀ o, Below w.heap.size w (w.alloc o)) := fun o => (Below.refl _ _).alloc (Nat.le_refl _) o
  go_enter Tryd.func55, Tryd.ntmps55
  go_wp2
  go_loop [1] (fun v => v = .slice p 0 cap) (fun _ => 0)
  case atStart => exact rfl
  case round =>
    obtain rfl := hrel
    go_wp2
    go_end0
    exact ⟨rfl, hb.out _⟩

/-- A slice of bytes that lies apart from n cells of block g from o on. -/
def Apart (v : Value) (g o n : Nat) : Prop := ∀ b off l c, v = .slice (some ⟨b, off, none⟩) l c → b ≠ g ∨ off + l ≤ o ∨ o + n ≤ off
theorem range_below {w w' : World} {g o : Nat} {cs : List Value} (h : w.rangeAt g o cs) (b : Below w.heap.size w w') (hg : g < w.heap.size) : w'.rangeAt g o cs := fun j v hv => by
  rw [b.cell (p := ⟨g, o + j, none⟩) hg]
  exact h j v hv

/-- narrow, wide: the words behind a slice's blocks. -/
theorem take_any (wd : Bool) (g o : Nat) (v : Value) (zs : List Int) (s : Eight) (w : World) (hg : g < w.heap.size) (hr : w.rangeAt g o s.cells) (ht : w.there g o 8) (hv : View w v zs) (hsep : Apart v g o 8) (hT : Tables w) (hg3 : 4 ≤ g) :
    Calls Tryd.prog (fnOf wd) #[.pointer (some ⟨g, o, none⟩), v] w fun e w' => e = .returned (.tuple #[]) ∧ Touch w w' g o 8 ∧ w'.rangeAt g o (TT wd (fun i => zs.getD i 0) s (zs.length / bsz wd)).cells := by
  obtain ⟨a, cap, rfl, h1, h2, h3, h4⟩ := hv
  rcases h4 with rfl | ⟨b, p, rfl, hc⟩
  · cases wd
    · refine (narrow_zero _ a cap w).mono ?_
      rintro e w' ⟨rfl, hb⟩
      exact ⟨rfl, (Touch.refl _ _ _ _).below hb hg, range_below hr hb hg⟩
    · refine (wide_zero _ a cap w).mono ?_
      rintro e w' ⟨rfl, hb⟩
      exact ⟨rfl, (Touch.refl _ _ _ _).below hb hg, range_below hr hb hg⟩
  · have hs := hsep _ _ _ _ rfl
    cases wd
    · exact narrow_walk g o b p zs.length cap s cubeAt (fun i => zs.getD i 0) w hg h1 h2 hr ht hc hs (fun t ht => hT.cubes t (by omega)) (by omega)
    · exact wide_walk g o b p zs.length cap s cubeAt (fun i => zs.getD i 0) w hg h1 h2 hr ht hc hs hT.cubes (by omega)
end Go.Proofs.YtcopkohklgbpgaaDoor
