import Derived.Test.YtioggmjocelolacDoorPart00
import Derived.KernelRfl
namespace Go.Proofs.YtioggmjocelolacDoor
open Go.RowKit
set_option linter.unusedVariables false
def stAt (A E : List Int) (t : Nat) : Eight := ⟨A.getD (t + 3) 0, A.getD (t + 2) 0, A.getD (t + 1) 0, A.getD t 0, E.getD (t + 3) 0, E.getD (t + 2) 0, E.getD (t + 1) 0, E.getD t 0⟩
theorem sched32_at (B : Nat → Int) (L : List Int) (h : ∀ t, t < 64 → L.getD t 0 = if t < 16 then word32 B t else (lo1_32 (L.getD (t - 2) 0) + L.getD (t - 7) 0 + lo0_32 (L.getD (t - 15) 0) + L.getD (t - 16) 0) % 4294967296) : ∀ t, t < 64 → sched32 B t = L.getD t 0 := by
  intro t
  induction t using Nat.strongRecOn with
  | _ t ih =>
    intro ht
    rw [sched32, h t ht]
    by_cases hc : t < 16
    · rw [if_pos hc, if_pos hc]
    · rw [if_neg hc, if_neg hc, ih (t - 2) (by omega) (by omega), ih (t - 7) (by omega) (by omega), ih (t - 15) (by omega) (by omega), ih (t - 16) (by omega) (by omega)]
theorem rounds32_at (C W : Nat → Int) (A E : List Int) (n : Nat) (h : ∀ t, t < n → round32 (stAt A E t) (C t) (W t) = stAt A E (t + 1)) : ∀ m, m ≤ n → rounds32 C W m (stAt A E 0) = stAt A E m
  | 0, _ => rfl
  | m + 1, hm => by rw [rounds32, rounds32_at C W A E n h m (by omega), h m (by omega)]
/-- Is it so, step by step? -/
def chk32 (B : Nat → Int) (L A E : List Int) : Bool := (List.range 64).all fun t => (L.getD t 0 == (if t < 16 then word32 B t else (lo1_32 (L.getD (t - 2) 0) + L.getD (t - 7) 0 + lo0_32 (L.getD (t - 15) 0) + L.getD (t - 16) 0) % 4294967296)) && ((t1_32 (stAt A E t) (cubeAt t) (L.getD t 0) + t2_32 (stAt A E t)) % 4294967296 == A.getD (t + 4) 0) && (((stAt A E t).d + t1_32 (stAt A E t) (cubeAt t) (L.getD t 0)) % 4294967296 == E.getD (t + 4) 0)
theorem blk32 (B : Nat → Int) (s s' : Eight) (L A E : List Int) (h : chk32 B L A E = true) (h0 : stAt A E 0 = ⟨s.a % 4294967296, s.b % 4294967296, s.c % 4294967296, s.d % 4294967296, s.e % 4294967296, s.f % 4294967296, s.g % 4294967296, s.k % 4294967296⟩) (h1 : Eight.zip (fun h x => (h + x) % 4294967296) s (stAt A E 64) = s') : block32 cubeAt B s = s' := by
  have hc : ∀ t, t < 64 → (L.getD t 0 = (if t < 16 then word32 B t else (lo1_32 (L.getD (t - 2) 0) + L.getD (t - 7) 0 + lo0_32 (L.getD (t - 15) 0) + L.getD (t - 16) 0) % 4294967296)) ∧ ((t1_32 (stAt A E t) (cubeAt t) (L.getD t 0) + t2_32 (stAt A E t)) % 4294967296 = A.getD (t + 4) 0) ∧ (((stAt A E t).d + t1_32 (stAt A E t) (cubeAt t) (L.getD t 0)) % 4294967296 = E.getD (t + 4) 0) := fun t ht => by
    have q := List.all_eq_true.1 h t (List.mem_range.2 ht)
    simp only [Bool.and_eq_true, beq_iff_eq] at q
    exact ⟨q.1.1, q.1.2, q.2⟩
  have hs := sched32_at B L fun t ht => (hc t ht).1
  have hr := rounds32_at cubeAt (sched32 B) A E 64 (fun t ht => by
    rw [hs t ht]
    unfold round32
    rw [(hc t ht).2.1, (hc t ht).2.2]
    rfl) 64 (Nat.le_refl _)
  unfold block32
  rw [← h0, hr]
  exact h1
theorem sched64_at (B : Nat → Int) (L : List Int) (h : ∀ t, t < 80 → L.getD t 0 = if t < 16 then part64 B t 8 else (lo1_64 (L.getD (t - 2) 0) + L.getD (t - 7) 0 + lo0_64 (L.getD (t - 15) 0) + L.getD (t - 16) 0) % 18446744073709551616) : ∀ t, t < 80 → sched64 B t = L.getD t 0 := by
  intro t
  induction t using Nat.strongRecOn with
  | _ t ih =>
    intro ht
    rw [sched64, h t ht]
    by_cases hc : t < 16
    · rw [if_pos hc, if_pos hc]
    · rw [if_neg hc, if_neg hc, ih (t - 2) (by omega) (by omega), ih (t - 7) (by omega) (by omega), ih (t - 15) (by omega) (by omega), ih (t - 16) (by omega) (by omega)]
theorem rounds64_at (C W : Nat → Int) (A E : List Int) (n : Nat) (h : ∀ t, t < n → round64 (stAt A E t) (C t) (W t) = stAt A E (t + 1)) : ∀ m, m ≤ n → rounds64 C W m (stAt A E 0) = stAt A E m
  | 0, _ => rfl
  | m + 1, hm => by rw [rounds64, rounds64_at C W A E n h m (by omega), h m (by omega)]
/-- Is it so, step by step? -/
def chk64 (B : Nat → Int) (L A E : List Int) : Bool := (List.range 80).all fun t => (L.getD t 0 == (if t < 16 then part64 B t 8 else (lo1_64 (L.getD (t - 2) 0) + L.getD (t - 7) 0 + lo0_64 (L.getD (t - 15) 0) + L.getD (t - 16) 0) % 18446744073709551616)) && ((t1_64 (stAt A E t) (cubeAt t) (L.getD t 0) + t2_64 (stAt A E t)) % 18446744073709551616 == A.getD (t + 4) 0) && (((stAt A E t).d + t1_64 (stAt A E t) (cubeAt t) (L.getD t 0)) % 18446744073709551616 == E.getD (t + 4) 0)
theorem blk64 (B : Nat → Int) (s s' : Eight) (L A E : List Int) (h : chk64 B L A E = true) (h0 : stAt A E 0 = s) (h1 : Eight.zip (fun h x => (h + x) % 18446744073709551616) s (stAt A E 80) = s') : block64 cubeAt B s = s' := by
  have hc : ∀ t, t < 80 → (L.getD t 0 = (if t < 16 then part64 B t 8 else (lo1_64 (L.getD (t - 2) 0) + L.getD (t - 7) 0 + lo0_64 (L.getD (t - 15) 0) + L.getD (t - 16) 0) % 18446744073709551616)) ∧ ((t1_64 (stAt A E t) (cubeAt t) (L.getD t 0) + t2_64 (stAt A E t)) % 18446744073709551616 = A.getD (t + 4) 0) ∧ (((stAt A E t).d + t1_64 (stAt A E t) (cubeAt t) (L.getD t 0)) % 18446744073709551616 = E.getD (t + 4) 0) := fun t ht => by
    have q := List.all_eq_true.1 h t (List.mem_range.2 ht)
    simp only [Bool.and_eq_true, beq_iff_eq] at q
    exact ⟨q.1.1, q.1.2, q.2⟩
  have hs := sched64_at B L fun t ht => (hc t ht).1
  have hr := rounds64_at cubeAt (sched64 B) A E 80 (fun t ht => by
    rw [hs t ht]
    unfold round64
    rw [(hc t ht).2.1, (hc t ht).2.2]
    rfl) 80 (Nat.le_refl _)
  unfold block64
  rw [← h0] at h1 ⊢
  rw [hr]
  exact h1
end Go.Proofs.YtioggmjocelolacDoor
