import Derived.Test.YtcnikfikpnnblaaGreatDoorPart10
import Derived.Test.YtcnikfikpnnblaaGreatDoorPart11
namespace Go.Proofs.YtcnikfikpnnblaaGreatDoor.Dg
open Go.RowKit
set_option linter.unusedVariables false
theorem fill_stepP {w : World} {k t N : Nat} {F : Nat → Value} (h : ∀ j, j < t → w.cell? ⟨k, j, none⟩ = some (F j)) (ht : w.there k 0 N) (htN : t < N) (u : Value) (hu : u = F t) :
  (∀ j, j < t + 1 → (w.setCell ⟨k, t, none⟩ u).cell? ⟨k, j, none⟩ = some (F j)) ∧ (w.setCell ⟨k, t, none⟩ u).there k 0 N := fill_step h ht htN u hu
theorem range_farP {w : World} {g o k t : Nat} {cs : List Value} (h : w.rangeAt g o cs) (u : Value) (hne : g ≠ k) : (w.setCell ⟨k, t, none⟩ u).rangeAt g o cs :=
 World.rangeAt_setCells_apart h k t [u] (.inl hne)

/-- A word of a block of 128 bytes, as far as its first k bytes; the words that follow. -/
def part64 (B : Nat → Int) (t : Nat) : Nat → Int
 | 0 => 0
 | k + 1 => bits .or .u64 (part64 B t k * 256 % 18446744073709551616) (B (8 * t + k) % 18446744073709551616)
def lo1_64 (x : Int) : Int := bits .xor .u64 (bits .xor .u64 (rotl64 x 45) (rotl64 x 3)) (x / 64)
def lo0_64 (x : Int) : Int := bits .xor .u64 (bits .xor .u64 (rotl64 x 63) (rotl64 x 56)) (x / 128)
def sched64 (B : Nat → Int) (t : Nat) : Int :=
 if t < 16 then part64 B t 8 else (lo1_64 (sched64 B (t - 2)) + sched64 B (t - 7) + lo0_64 (sched64 B (t - 15)) + sched64 B (t - 16)) % 18446744073709551616
termination_by t
decreasing_by all_goals omega
def block64 (C B : Nat → Int) (s : Eight) : Eight := Eight.zip (fun h x => (h + x) % 18446744073709551616) s (rounds64 C (sched64 B) 80 s)
def takes64 (C B : Nat → Int) (s : Eight) : Nat → Eight
 | 0 => s
 | i + 1 => block64 C (fun j => B (128 * i + j)) (takes64 C B s i)

set_option maxHeartbeats 6400000 in
set_option maxRecDepth 100000 in
theorem wide_walk (g o b p n cap : Nat) (s : Eight) (C B : Nat → Int) (w : World) (hg : g < w.heap.size) (hcap : n ≤ cap) (hcm : cap ≤ maxLen)
  (hr : w.rangeAt g o s.cells) (ht : w.there g o 8)
  (hB : ∀ i, i < n → w.cell? ⟨b, p + i, none⟩ = some (.int .u8 (B i)))
  (hsep : b ≠ g ∨ p + n ≤ o ∨ o + 8 ≤ p)
  (hC : ∀ t, t < 80 → w.cell? ⟨8, t, none⟩ = some (.int .u64 (C t))) (hg3 : 8 ≠ g) :
  Calls Tryz.prog 262 #[.pointer (some ⟨g, o, none⟩), .slice (some ⟨b, p, none⟩) n cap] w fun e w' => e = .returned (.tuple #[]) ∧ Touch w w' g o 8 ∧ w'.rangeAt g o (takes64 C B s (n / 128)).cells := by
 have HR : Hid (w.rangeAt g o s.cells) := hr
 have HT : Hid (w.there g o 8) := ht
 have HB : Hid (∀ i, i < n → w.cell? ⟨b, p + i, none⟩ = some (.int .u8 (B i))) := hB
 have HC : Hid (∀ t, t < 80 → w.cell? ⟨8, t, none⟩ = some (.int .u64 (C t))) := hC
 have HS : Hid (b ≠ g ∨ p + n ≤ o ∨ o + 8 ≤ p) := hsep
 have hcm' : cap ≤ 9223372036854775807 := by unfold maxLen at hcm; omega
 clear hr ht hB hC hcm hsep
 go_enter Tryz.func262, Tryz.ntmps262
 go_wp2
 go_loopw [1] (fun v wr => ∃ i q : Nat, 128 * i ≤ n ∧ (n = 128 * i ∨ q = p + 128 * i) ∧ v = .slice (some ⟨b, q, none⟩) (n - 128 * i) (cap - 128 * i) ∧ Hid (Touch w wr g o 8) ∧ Hid (wr.there w.heap.size 0 80 ∧ w.heap.size < wr.heap.size) ∧ Hid (wr.rangeAt g o (takes64 C B s i).cells)) (fun v _ => lenOf v)
 case atStart => exact ⟨0, p, by omega, .inr (by omega), rfl, (Touch.refl _ _ _ _).alloc _ hg, ⟨there_new w _ 174 80 (by decide), by simp⟩, World.rangeAt_alloc HR.out _⟩
 case round =>
  obtain ⟨i, q, hi, hq0, rfl, HT1, HN1, HR1⟩ := hrel
  by_cases hlt : 128 ≤ n - 128 * i
  ·have hq : q = p + 128 * i := by omega
   obtain ⟨m, hm⟩ : ∃ m, m = n - 128 * i := ⟨_, rfl⟩
   obtain ⟨c, hc⟩ : ∃ c, c = cap - 128 * i := ⟨_, rfl⟩
   have hmc : m ≤ c := by omega
   have hcc : c ≤ 9223372036854775807 := by omega
   rw [← hm, ← hc]
   rw [← hm] at hlt
   have HQ : Hid (q = p + 128 * i ∧ m = n - 128 * i ∧ c = cap - 128 * i) := ⟨hq, hm, hc⟩
   have HBq : Hid (∀ j, j < 128 → w.cell? ⟨b, q + j, none⟩ = some (.int .u8 (B (128 * i + j)))) := fun j hj => by
    have := HB.out (128 * i + j) (by omega)
    rw [← Nat.add_assoc, ← hq] at this
    exact this
   have HSq : Hid (b ≠ g ∨ q + 128 ≤ o ∨ o + 8 ≤ q) := by rcases HS.out with h | h; exact .inl h; exact .inr (by omega)
   clear hq hm hc hq0
   go_wp2
   rw [show decide ((128 : Int) ≤ (m : Int)) = true by simp; omega]
   go_loopw [19] (fun v wr => ∃ t : Nat, t ≤ 16 ∧ v = .int .i64 t ∧ Hid (Touch w wr g o 8) ∧ Hid (wr.there w.heap.size 0 80 ∧ w.heap.size < wr.heap.size) ∧ Hid (wr.rangeAt g o (takes64 C B s i).cells) ∧ Hid (∀ j, j < t → wr.cell? ⟨w.heap.size, j, none⟩ = some (.int .u64 (sched64 (fun j => B (128 * i + j)) j)))) (fun v _ => 16 - (intOf v).toNat)
   case atStart => exact ⟨0, by omega, rfl, HT1, HN1, HR1, fun j hj => by omega⟩
   case round =>
    obtain ⟨t, ht, rfl, HT2, HN2, HR2, HF2⟩ := hrel
    clear HT1 HN1 HR1
    by_cases h16 : t < 16
    ·have fw : wr.frozen? ⟨w.heap.size, t, none⟩ = false := by simpa using (HN2.out.1 t (by omega)).2
     obtain ⟨u, fu⟩ : ∃ u, wr.cell? ⟨w.heap.size, t, none⟩ = some u := by simpa [Option.isSome_iff_exists] using (HN2.out.1 t (by omega)).1
     go_wp2
     go_loop [6, 30] (fun x v => ∃ k : Nat, k ≤ 8 ∧ v = .int .i64 k ∧ x = .int .u64 (part64 (fun j => B (128 * i + j)) t k)) (fun _ v => 8 - (intOf v).toNat)
     case atStart => exact ⟨0, by omega, rfl, rfl⟩
     case round =>
      obtain ⟨k, hk, rfl, rfl⟩ := hrel
      by_cases h8 : k < 8
      ·have f0 : wr.cell? ⟨b, q + 8 * t + k, none⟩ = some (.int .u8 (B (128 * i + (8 * t + k)))) := HT2.out.outside (by have := HBq.out (8 * t + k) (by omega); rw [← Nat.add_assoc] at this; exact this) (by rcases HSq.out with h | h; exact .inl h; exact .inr (by omega))
       go_wp2
       go_round
       case rel => exact ⟨k + 1, by omega, by go_num, val_eq (by rw [IntKind.wrap_u64, IntKind.wrap_u64]; exact rfl)⟩
       case measure => simp [intOf]; omega
      ·obtain rfl : k = 8 := by omega
       go_wp2
       go_roundw
       case rel =>
        have hfill := fill_stepP (F := fun j => .int .u64 (sched64 (fun j => B (128 * i + j)) j)) HF2.out HN2.out.1 (show t < 80 by omega) (.int .u64 (part64 (fun j => B (128 * i + j)) t 8)) (by rw [sched64, if_pos h16])
        exact ⟨t + 1, by omega, by go_num, HT2.out.setNew w.heap.size t _ (Nat.le_refl _) hg, ⟨hfill.2, by simpa using HN2.out.2⟩, range_farP HR2.out _ (by omega), hfill.1⟩
       case measure => simp [intOf]; omega
    ·obtain rfl : t = 16 := by omega
     clear h16 ht HBq HSq
     go_wp2
     rw [show ((16 : Nat) : Int) = 16 from rfl]
     go_loopw [9] (fun v wr => ∃ t : Nat, t ≤ 64 ∧ v = .int .i64 (16 + (t : Int)) ∧ Hid (Touch w wr g o 8) ∧ Hid (wr.there w.heap.size 0 80 ∧ w.heap.size < wr.heap.size) ∧ Hid (wr.rangeAt g o (takes64 C B s i).cells) ∧ Hid (∀ j, j < 16 + t → wr.cell? ⟨w.heap.size, j, none⟩ = some (.int .u64 (sched64 (fun j => B (128 * i + j)) j)))) (fun v _ => 80 - (intOf v).toNat)
     case atStart => exact ⟨0, by omega, rfl, HT2, HN2, HR2, HF2⟩
     case round =>
      obtain ⟨t, ht, rfl, HT3, HN3, HR3, HF3⟩ := hrel
      clear HT2 HN2 HR2 HF2
      by_cases h48 : t < 64
      ·have f2 : wr.cell? ⟨w.heap.size, t + 14, none⟩ = some (.int .u64 (sched64 (fun j => B (128 * i + j)) (t + 14))) := HF3.out _ (by omega)
       have f15 : wr.cell? ⟨w.heap.size, t + 1, none⟩ = some (.int .u64 (sched64 (fun j => B (128 * i + j)) (t + 1))) := HF3.out _ (by omega)
       have f7 : wr.cell? ⟨w.heap.size, t + 9, none⟩ = some (.int .u64 (sched64 (fun j => B (128 * i + j)) (t + 9))) := HF3.out _ (by omega)
       have f16 : wr.cell? ⟨w.heap.size, t, none⟩ = some (.int .u64 (sched64 (fun j => B (128 * i + j)) t)) := HF3.out _ (by omega)
       have fw : wr.frozen? ⟨w.heap.size, t + 16, none⟩ = false := by simpa using (HN3.out.1 (t + 16) (by omega)).2
       obtain ⟨u, fu⟩ : ∃ u, wr.cell? ⟨w.heap.size, t + 16, none⟩ = some u := by simpa [Option.isSome_iff_exists] using (HN3.out.1 (t + 16) (by omega)).1
       have e2 : (16 + (t : Int) - 2).toNat = t + 14 := by omega
       have e15 : (16 + (t : Int) - 15).toNat = t + 1 := by omega
       have e7 : (16 + (t : Int) - 7).toNat = t + 9 := by omega
       have e16 : (16 + (t : Int) - 16).toNat = t := by omega
       have e0 : (16 + (t : Int)).toNat = t + 16 := by omega
       go_wp2
       go_quiet (fail)
       go_wp2_with (first | (go_at_call 277; (first | refine (rot64_of 19 (by decide +kernel)).mono ?_ | refine (rot64_of 61 (by decide +kernel)).mono ?_ | refine (rot64_of 1 (by decide +kernel)).mono ?_ | refine (rot64_of 8 (by decide +kernel)).mono ?_); (rintro e1 w1 ⟨rfl, hw1⟩; obtain rfl := hw1.symm)))
       go_region
       go_wp2
       go_roundw
       case rel =>
        have hv : sched64 (fun j => B (128 * i + j)) (t + 16) = (lo1_64 (sched64 (fun j => B (128 * i + j)) (t + 14)) + sched64 (fun j => B (128 * i + j)) (t + 9) + lo0_64 (sched64 (fun j => B (128 * i + j)) (t + 1)) + sched64 (fun j => B (128 * i + j)) t) % 18446744073709551616 := by
         rw [sched64, if_neg (by omega)]
         rw [show t + 16 - 2 = t + 14 by omega, show t + 16 - 7 = t + 9 by omega, show t + 16 - 15 = t + 1 by omega, show t + 16 - 16 = t by omega]
        have hF : ∀ j, j < t + 16 → wr.cell? ⟨w.heap.size, j, none⟩ = some (.int .u64 (sched64 (fun j => B (128 * i + j)) j)) := fun j hj => HF3.out j (by omega)
        have hfill := fill_step (w := wr.drewN nq) (F := fun j => .int .u64 (sched64 (fun j => B (128 * i + j)) j)) hF HN3.out.1 (show t + 16 < 80 by omega) (.int .u64 (IntKind.u64.wrap (IntKind.u64.wrap (IntKind.u64.wrap (lo1_64 (sched64 (fun j => B (128 * i + j)) (t + 14)) + sched64 (fun j => B (128 * i + j)) (t + 9)) + lo0_64 (sched64 (fun j => B (128 * i + j)) (t + 1))) + sched64 (fun j => B (128 * i + j)) t))) (val_eq (by rw [hv]; simp only [IntKind.wrap_u64, Int.emod_add_emod]))
        exact ⟨t + 1, by omega, by go_num, ((HT3.out.drewN nq).setNew w.heap.size (t + 16) _ (Nat.le_refl _) hg).drew, ⟨hfill.2, by simpa using HN3.out.2⟩, range_far (w := wr.drewN nq) HR3.out _ (by omega), fun j hj => hfill.1 j (by omega)⟩
       case measure => simp [intOf]; omega
      ·obtain rfl : t = 64 := by omega
       clear h48 ht
       go_wp2_with fail
       have hs := HT3.out.size
       refine (rounds64_walk g o w.heap.size _ _ _ _ _ _ _ _ (sched64 (fun j => B (128 * i + j))) C wr HR3.out (HT3.out.there _ _ HT.out) (fun j hj => HF3.out j (by omega)) (fun j hj => HT3.out.outside (HC.out j hj) (.inl hg3))).mono ?_
       rintro e w4 ⟨rfl, ht4, hr4⟩
       have HT4 : Hid (Touch w w4 g o 8) := HT3.out.trans ht4
       have HN4 : Hid (w4.there w.heap.size 0 80 ∧ w.heap.size < w4.heap.size) := ⟨ht4.thereFar HN3.out.1 HN3.out.2 (by omega), Nat.lt_of_lt_of_le HN3.out.2 ht4.size⟩
       have HR4 : Hid (w4.rangeAt g o (takes64 C B s (i + 1)).cells) := hr4
       clear ht4 hr4 HT3 HN3 HR3 HF3 hs
       go_wp2
       go_roundw
       case rel =>
        obtain ⟨h1, h2, h3⟩ := HQ.out
        exact ⟨i + 1, if c = 128 then q else q + 128, by omega, (by split <;> omega), slice_eq (by split <;> rfl) (by omega) (by omega), HT4, HN4, HR4⟩
       case measure => simp [lenOf]; omega
  ·go_wp2
   go_end0
   refine ⟨rfl, HT1.out, ?_⟩
   rw [show n / 128 = i by omega]
   exact HR1.out
end Go.Proofs.YtcnikfikpnnblaaGreatDoor.Dg
namespace Go.Proofs.YtcnikfikpnnblaaGreatDoor.Dg
open Go.RowKit
set_option linter.unusedVariables false

/-- The table of the cubes' roots, as a function. -/
def cubesL : List Int := [4794697086780616226, 8158064640168781261, 13096744586834688815, 16840607885511220156, 4131703408338449720, 6480981068601479193, 10538285296894168987, 12329834152419229976, 15566598209576043074, 1334009975649890238, 2608012711638119052, 6128411473006802146, 8268148722764581231, 9286055187155687089, 11230858885718282805, 13951009754708518548, 16472876342353939154, 17275323862435702243, 1135362057144423861, 2597628984639134821, 3308224258029322869, 5365058923640841347, 6679025012923562964, 8573033837759648693, 10970295158949994411, 12119686244451234320, 12683024718118986047, 13788192230050041572, 14330467153632333762, 15395433587784984357, 489312712824947311, 1452737877330783856, 2861767655752347644, 3322285676063803686, 5560940570517711597, 5996557281743188959, 7280758554555802590, 8532644243296465576, 9350256976987008742, 10552545826968843579, 11727347734174303076, 12113106623233404929, 14000437183269869457, 14369950271660146224, 15101387698204529176, 15463397548674623760, 17586052441742319658, 1182934255886127544, 1847814050463011016, 2177327727835720531, 2830643537854262169, 3796741975233480872, 4115178125766777443, 5681478168544905931, 6601373596472566643, 7507060721942968483, 8399075790359081724, 8693463985226723168, 9568029438360202098, 10144078919501101548, 10430055236837252648, 11840083180663258601, 13761210420658862357, 14299343276471374635, 14566680578165727644, 15097957966210449927, 16922976911328602910, 17689382322260857208, 500013540394364858, 748580250866718886, 1242879168328830382, 1977374033974150939, 2944078676154940804, 3659926193048069267, 4368137639120453308, 4836135668995329356, 5532061633213252278, 6448918945643986474, 6902733635092675308, 7801388544844847127]
def rootsL : List Int := [7640891576956012808, 13503953896175478587, 4354685564936845355, 11912009170470909681, 5840696475078001361, 11170449401992604703, 2270897969802886507, 6620516959819538809, 14680500436340154072, 7105036623409894663, 10473403895298186519, 1526699215303891257, 7436329637833083697, 10282925794625328401, 15784041429090275239, 5167115440072839076]
def cubeAt (t : Nat) : Int := cubesL.getD t 0
def rootAt (t : Nat) : Int := rootsL.getD t 0
/-- The two tables lie where the program laid them. -/
structure Tables (w : World) : Prop where
 cubes : ∀ t, t < 80 → w.cell? ⟨8, t, none⟩ = some (.int .u64 (cubeAt t))
 roots : ∀ t, t < 16 → w.cell? ⟨5, t, none⟩ = some (.int .u64 (rootAt t))
theorem Tables.kept {w w' : World} (h : Tables w) (hb : ∀ k, k < 9 → w'.heap[k]? = w.heap[k]?) : Tables w' :=
 ⟨fun t ht => by rw [World.cell?_of_block (w := w) (hb 8 (by omega))]; exact h.cubes t ht, fun t ht => by rw [World.cell?_of_block (w := w) (hb 5 (by omega))]; exact h.roots t ht⟩
theorem Tables.size {w : World} (h : Tables w) : 9 ≤ w.heap.size := lt_of_cell (h.cubes 0 (by omega))
theorem Tables.below {w w' : World} {B : Nat} (h : Tables w) (b : Below B w w') (hB : 9 ≤ B) : Tables w' := h.kept fun k hk => b.block k (by omega)
theorem Tables.touch {w w' : World} {g o n : Nat} (h : Tables w) (b : Touch w w' g o n) (hg : 9 ≤ g) : Tables w' := h.kept fun k hk => b.block k (by have := h.size; omega) (by omega)

def bsz (wd : Bool) : Nat := if wd then 128 else 64
def fnOf (wd : Bool) : FuncId := if wd then 262 else 261
def fnV (wd : Bool) : Value := .func (.func (fnOf wd)) #[] #[]
/-- The words behind n blocks. -/
def TT (wd : Bool) (B : Nat → Int) (s : Eight) (n : Nat) : Eight := if wd then takes64 cubeAt B s n else takes32 cubeAt B s n
theorem bsz_pos (wd : Bool) : 0 < bsz wd := by cases wd <;> decide

theorem TT_zero (wd : Bool) (B : Nat → Int) (s : Eight) : TT wd B s 0 = s := by cases wd <;> rfl
theorem sched32_congr {B B' : Nat → Int} (h : ∀ j, j < 64 → B j = B' j) : ∀ n t, t < n → t < 64 → sched32 B t = sched32 B' t
 | 0, t, h0, _ => by omega
 | n + 1, t, h0, h1 => by
  rw [sched32.eq_def B t, sched32.eq_def B' t]
  by_cases h16 : t < 16
  ·rw [if_pos h16, if_pos h16]
   simp only [word32]
   rw [h (4 * t) (by omega), h (4 * t + 1) (by omega), h (4 * t + 2) (by omega), h (4 * t + 3) (by omega)]
  ·rw [if_neg h16, if_neg h16, sched32_congr h n (t - 2) (by omega) (by omega), sched32_congr h n (t - 7) (by omega) (by omega), sched32_congr h n (t - 15) (by omega) (by omega), sched32_congr h n (t - 16) (by omega) (by omega)]
theorem rounds32_congr {C W W' : Nat → Int} (s : Eight) : ∀ n, (∀ t, t < n → W t = W' t) → rounds32 C W n s = rounds32 C W' n s
 | 0, _ => rfl
 | n + 1, h => by rw [rounds32, rounds32, rounds32_congr s n (fun t ht => h t (by omega)), h n (by omega)]
theorem block32_congr {C B B' : Nat → Int} (s : Eight) (h : ∀ j, j < 64 → B j = B' j) : block32 C B s = block32 C B' s := by
 rw [block32, block32, rounds32_congr _ 64 (fun t ht => sched32_congr h 64 t ht ht)]
theorem part64_congr {B B' : Nat → Int} (t : Nat) : ∀ k, (∀ j, j < k → B (8 * t + j) = B' (8 * t + j)) → part64 B t k = part64 B' t k
 | 0, _ => rfl
 | k + 1, h => by rw [part64, part64, part64_congr t k (fun j hj => h j (by omega)), h k (by omega)]
theorem sched64_congr {B B' : Nat → Int} (h : ∀ j, j < 128 → B j = B' j) : ∀ n t, t < n → t < 80 → sched64 B t = sched64 B' t
 | 0, t, h0, _ => by omega
 | n + 1, t, h0, h1 => by
  rw [sched64.eq_def B t, sched64.eq_def B' t]
  by_cases h16 : t < 16
  ·rw [if_pos h16, if_pos h16, part64_congr t 8 (fun j hj => h _ (by omega))]
  ·rw [if_neg h16, if_neg h16, sched64_congr h n (t - 2) (by omega) (by omega), sched64_congr h n (t - 7) (by omega) (by omega), sched64_congr h n (t - 15) (by omega) (by omega), sched64_congr h n (t - 16) (by omega) (by omega)]
theorem rounds64_congr {C W W' : Nat → Int} (s : Eight) : ∀ n, (∀ t, t < n → W t = W' t) → rounds64 C W n s = rounds64 C W' n s
 | 0, _ => rfl
 | n + 1, h => by rw [rounds64, rounds64, rounds64_congr s n (fun t ht => h t (by omega)), h n (by omega)]
theorem block64_congr {C B B' : Nat → Int} (s : Eight) (h : ∀ j, j < 128 → B j = B' j) : block64 C B s = block64 C B' s := by
 rw [block64, block64, rounds64_congr _ 80 (fun t ht => sched64_congr h 80 t ht ht)]
/-- The words hang on the blocks' bytes alone. -/
theorem TT_congr (wd : Bool) {B B' : Nat → Int} (s : Eight) : ∀ n, (∀ j, j < bsz wd * n → B j = B' j) → TT wd B s n = TT wd B' s n
 | 0, _ => by rw [TT_zero, TT_zero]
 | n + 1, h => by
  have ih := TT_congr wd s n (B := B) (B' := B') (fun j hj => h j (by rw [Nat.mul_succ]; omega))
  cases wd
  ·simp only [TT, bsz, Bool.false_eq_true, if_false] at ih h ⊢
   rw [takes32, takes32, ih]
   exact block32_congr _ fun j hj => h _ (by omega)
  ·simp only [TT, bsz, if_true] at ih h ⊢
   rw [takes64, takes64, ih]
   exact block64_congr _ fun j hj => h _ (by omega)
/-- Blocks behind blocks. -/
theorem TT_add (wd : Bool) (B : Nat → Int) (s : Eight) (i : Nat) : ∀ j, TT wd B s (i + j) = TT wd (fun k => B (bsz wd * i + k)) (TT wd B s i) j
 | 0 => by rw [TT_zero]; rfl
 | j + 1 => by
  have ih := TT_add wd B s i j
  cases wd
  ·simp only [TT, bsz, Bool.false_eq_true, if_false] at ih ⊢
   rw [← Nat.add_assoc, takes32, takes32, ← ih]
   exact block32_congr _ fun k hk => by rw [Nat.mul_add, Nat.add_assoc]
  ·simp only [TT, bsz, if_true] at ih ⊢
   rw [← Nat.add_assoc, takes64, takes64, ← ih]
   exact block64_congr _ fun k hk => by rw [Nat.mul_add, Nat.add_assoc]

set_option maxHeartbeats 400000 in
theorem narrow_zero (a : Value) (p : Option Addr) (cap : Nat) (w : World) :
  Calls Tryz.prog 261 #[a, .slice p 0 cap] w fun e w' => e = .returned (.tuple #[]) ∧ Below w.heap.size w w' := by
 have hb : Hid (∀ o, Below w.heap.size w (w.alloc o)) := fun o => (Below.refl _ _).alloc (Nat.le_refl _) o
 go_enter Tryz.func261, Tryz.ntmps261
 go_wp2
 go_loop [1] (fun v => v = .slice p 0 cap) (fun _ => 0)
 case atStart => exact rfl
 case round =>
  obtain rfl := hrel
  go_wp2
  go_end0
  exact ⟨rfl, hb.out _⟩
set_option maxHeartbeats 400000 in
theorem wide_zero (a : Value) (p : Option Addr) (cap : Nat) (w : World) :
  Calls Tryz.prog 262 #[a, .slice p 0 cap] w fun e w' => e = .returned (.tuple #[]) ∧ Below w.heap.size w w' := by
 have hb : Hid (∀ o, Below w.heap.size w (w.alloc o)) := fun o => (Below.refl _ _).alloc (Nat.le_refl _) o
 go_enter Tryz.func262, Tryz.ntmps262
 go_wp2
 go_loop [1] (fun v => v = .slice p 0 cap) (fun _ => 0)
 case atStart => exact rfl
 case round =>
  obtain rfl := hrel
  go_wp2
  go_end0
  exact ⟨rfl, hb.out _⟩

/-- A slice of bytes that lies apart from n cells of block g from o on. -/
def Apart (v : Value) (g o n : Nat) : Prop := ∀ b off l c, v = .slice (some ⟨b, off, none⟩) l c → b ≠ g ∨ off + l ≤ o ∨ o + n ≤ off
theorem range_below {w w' : World} {g o : Nat} {cs : List Value} (h : w.rangeAt g o cs) (b : Below w.heap.size w w') (hg : g < w.heap.size) : w'.rangeAt g o cs := fun j v hv => by
 rw [b.cell (p := ⟨g, o + j, none⟩) hg]
 exact h j v hv

/-- narrow, wide: the words behind a slice's blocks. -/
theorem take_any (wd : Bool) (g o : Nat) (v : Value) (zs : List Int) (s : Eight) (w : World) (hg : g < w.heap.size) (hr : w.rangeAt g o s.cells) (ht : w.there g o 8) (hv : View w v zs) (hsep : Apart v g o 8) (hT : Tables w) (hg3 : 9 ≤ g) :
  Calls Tryz.prog (fnOf wd) #[.pointer (some ⟨g, o, none⟩), v] w fun e w' => e = .returned (.tuple #[]) ∧ Touch w w' g o 8 ∧ w'.rangeAt g o (TT wd (fun i => zs.getD i 0) s (zs.length / bsz wd)).cells := by
 obtain ⟨a, cap, rfl, h1, h2, h3, h4⟩ := hv
 rcases h4 with rfl | ⟨b, p, rfl, hc⟩
 ·cases wd
  ·refine (narrow_zero _ a cap w).mono ?_
   rintro e w' ⟨rfl, hb⟩
   exact ⟨rfl, (Touch.refl _ _ _ _).below hb hg, range_below hr hb hg⟩
  ·refine (wide_zero _ a cap w).mono ?_
   rintro e w' ⟨rfl, hb⟩
   exact ⟨rfl, (Touch.refl _ _ _ _).below hb hg, range_below hr hb hg⟩
 ·have hs := hsep _ _ _ _ rfl
  cases wd
  ·exact narrow_walk g o b p zs.length cap s cubeAt (fun i => zs.getD i 0) w hg h1 h2 hr ht hc hs (fun t ht => hT.cubes t (by omega)) (by omega)
  ·exact wide_walk g o b p zs.length cap s cubeAt (fun i => zs.getD i 0) w hg h1 h2 hr ht hc hs hT.cubes (by omega)
end Go.Proofs.YtcnikfikpnnblaaGreatDoor.Dg
