import Derived.Test.YtmfnhdflmnmooaaPart01
import Derived.Test.YtmfnhdflmnmooaaPart00
import Derived.RangeFuncNested
import Derived.RangeFuncBound
import Derived.RangeFuncCalls
import Derived.RangeFuncLeaves
import Derived.Shelf.Abstract
import Derived.Shelf.RegionOpen
import Derived.WalkKit
import Derived.OwnWalkIn
import Derived.TacticsInMore
import Derived.LoopNIn
import Derived.LoopIn
import Derived.Maps.AppendAt
import Derived.Test.YtmfnhdflmnmooaaChecked
import Derived.RangeFuncFrom
import Derived.Below
import Derived.ProofKit
import Derived.Deep.RegionHeld3
import Derived.BigRegion
import Derived.BigQuiet
import Derived.Deep.QuietTactic
import Derived.Laws.Bits64
import Derived.Deep.Cut
import Derived.RangeFuncBox
import Derived.Laws.Rows
import Derived.Sort.QuietIn
namespace Go.Proofs.Ytmfnhdflmnmooaa
open Go.RowKit
set_option linter.unusedVariables false
set_option linter.unusedSimpArgs false
/-- May an area be a rotation's? -/
def areaB (U H K ao az mode : Int) (hot : Nat) : Bool := roomG U mode hot && decide ((roomF U mode hot : Int) ≤ az) && decide (ao % 4096 = 0) && decide (az % 4096 = 0) && decide (2 * H ≤ ao) && decide (ao ≤ 2 * H + K - az)
/-- A shape and an area, each in its block. -/
structure AAt (u : World) (s : Nat) (U C H K ao az : Int) : Prop where
  sa : SAt u s U C H K
  a0 : u.cell? ⟨s + 1, 0, none⟩ = some (.int .i64 ao)
  a1 : u.cell? ⟨s + 1, 1, none⟩ = some (.int .i64 az)
theorem AAt.below {u v : World} {s : Nat} {U C H K ao az : Int} (a : AAt u s U C H K ao az) (b : Below u.heap.size u v) : AAt v s U C H K ao az := ⟨a.sa.below b, cell_below b a.a0, cell_below b a.a1⟩
theorem AAt.new (w : World) (U C H K ao az : Int) : AAt ((w.alloc (.cells #[.int .i64 U, .int .u64 C, .int .i64 H, .int .i64 K] 24)).alloc (.cells #[.int .i64 ao, .int .i64 az] 31)) w.heap.size U C H K ao az := by
  have h := SAt.new w U C H K 24
  have q := fun j v => rangeAt_new (w.alloc (.cells #[.int .i64 U, .int .u64 C, .int .i64 H, .int .i64 K] 24)) #[.int .i64 ao, .int .i64 az] 31 j v
  rw [World.size_alloc] at q
  exact ⟨h.below (below_alloc1 _ _), q 0 _ rfl, q 1 _ rfl⟩
theorem AAt.nb (w : World) (o p : Obj) : Below w.heap.size w ((w.alloc o).alloc p) := ((Below.refl _ w).alloc (Nat.le_refl _) _).alloc (by simp) _
theorem AAt.all {u : World} {s : Nat} {U C H K ao az : Int} (a : AAt u s U C H K ao az) : u.cell? ⟨s, 0, none⟩ = some (.int .i64 U) ∧ u.cell? ⟨s, 1, none⟩ = some (.int .u64 C) ∧ u.cell? ⟨s, 2, none⟩ = some (.int .i64 H) ∧ u.cell? ⟨s, 3, none⟩ = some (.int .i64 K) ∧ u.cell? ⟨s + 1, 0, none⟩ = some (.int .i64 ao) ∧ u.cell? ⟨s + 1, 1, none⟩ = some (.int .i64 az) := ⟨a.sa.c0, a.sa.c1, a.sa.c2, a.sa.c3, a.a0, a.a1⟩
theorem tmod_zero (x : Int) : (x.tmod 4096 == 0) = decide (x % 4096 = 0) := by
  have h : x.tmod 4096 = 0 ↔ x % 4096 = 0 := by rw [← Int.dvd_iff_tmod_eq_zero, ← Int.dvd_iff_emod_eq_zero]
  by_cases c : x % 4096 = 0
  · simp [c, h.2 c]
  · have c2 : ¬ x.tmod 4096 = 0 := fun h2 => c (h.1 h2)
    simp [c, c2]
set_option maxHeartbeats 3200000 in
set_option maxRecDepth 100000 in
theorem area_0 (U C H K ao az mode : Int) (hot : Nat) (w : World) (h1 : 0 ≤ H) (h2 : H ≤ 4194304) (k1 : 0 ≤ K) (k2 : K ≤ 134217728) (z2 : az ≤ 9223372036854775807) (hg : roomG U mode hot = false) : Calls Try.prog 19 #[.agg #[.int .i64 U, .int .u64 C, .int .i64 H, .int .i64 K], .agg #[.int .i64 ao, .int .i64 az], .int .i64 mode, .int .u64 (hot : Nat)] w fun e w' => Hid (e = .returned (.bool (false)) ∧ Below w.heap.size w w') := by
  have HR : Hid (∀ v, Calls Try.prog 35 #[.int .i64 U, .int .i64 mode, .int .u64 (hot : Nat)] v fun e w' => e = .returned (.tuple #[.int .i64 (roomF U mode hot : Nat), .int .i64 2]) ∧ w' = v) := fun v => by
    have q := room_ok U mode hot v
    rw [show roomE U mode hot = 2 by simp [roomE, hg]] at q
    exact q
  generalize roomF U mode hot = R at *
  have HA : Hid (AAt ((w.alloc (.cells #[.int .i64 U, .int .u64 C, .int .i64 H, .int .i64 K] 24)).alloc (.cells #[.int .i64 ao, .int .i64 az] 31)) w.heap.size U C H K ao az ∧ Below w.heap.size w ((w.alloc (.cells #[.int .i64 U, .int .u64 C, .int .i64 H, .int .i64 K] 24)).alloc (.cells #[.int .i64 ao, .int .i64 az] 31))) := ⟨AAt.new _ _ _ _ _ _ _, AAt.nb _ _ _⟩
  clear hg
  go_enter Try.func19, Try.ntmps19
  go_upto_region 1 with fail
  generalize ((w.alloc (.cells #[.int .i64 U, .int .u64 C, .int .i64 H, .int .i64 K] 24)).alloc (.cells #[.int .i64 ao, .int .i64 az] 31)) = w0 at HA ⊢
  have c0 := HA.out.1.sa.c0
  go_upto_region 2 with (go_at_call 35; refine (HR.out _).mono ?_; rintro e5 w5 ⟨rfl, hw5⟩; obtain rfl := hw5.symm)
  have c1 := HA.out.1.a0
  have c2 := HA.out.1.a1
  go_quiet (fail)
  have HB : Hid (Below w.heap.size w (w0.drewN nq)) := Below.ofSm HA.out.2 ⟨rfl, rfl, rfl, rfl⟩
  go_wp2
  go_ret
  exact ⟨rfl, HB.out⟩
set_option maxHeartbeats 3200000 in
set_option maxRecDepth 100000 in
theorem area_1 (U C H K ao az mode : Int) (hot : Nat) (w : World) (h1 : 0 ≤ H) (h2 : H ≤ 4194304) (k1 : 0 ≤ K) (k2 : K ≤ 134217728) (z2 : az ≤ 9223372036854775807) (hg : roomG U mode hot = true) (hr : ¬ (roomF U mode hot : Int) ≤ az) : Calls Try.prog 19 #[.agg #[.int .i64 U, .int .u64 C, .int .i64 H, .int .i64 K], .agg #[.int .i64 ao, .int .i64 az], .int .i64 mode, .int .u64 (hot : Nat)] w fun e w' => Hid (e = .returned (.bool (false)) ∧ Below w.heap.size w w') := by
  have HR : Hid (∀ v, Calls Try.prog 35 #[.int .i64 U, .int .i64 mode, .int .u64 (hot : Nat)] v fun e w' => e = .returned (.tuple #[.int .i64 (roomF U mode hot : Nat), .int .i64 0]) ∧ w' = v) := fun v => by
    have q := room_ok U mode hot v
    rw [show roomE U mode hot = 0 by simp [roomE, hg]] at q
    exact q
  generalize roomF U mode hot = R at *
  have qr : decide ((R : Int) ≤ az) = false := by simpa using hr
  have HA : Hid (AAt ((w.alloc (.cells #[.int .i64 U, .int .u64 C, .int .i64 H, .int .i64 K] 24)).alloc (.cells #[.int .i64 ao, .int .i64 az] 31)) w.heap.size U C H K ao az ∧ Below w.heap.size w ((w.alloc (.cells #[.int .i64 U, .int .u64 C, .int .i64 H, .int .i64 K] 24)).alloc (.cells #[.int .i64 ao, .int .i64 az] 31))) := ⟨AAt.new _ _ _ _ _ _ _, AAt.nb _ _ _⟩
  clear hg hr
  go_enter Try.func19, Try.ntmps19
  go_upto_region 1 with fail
  generalize ((w.alloc (.cells #[.int .i64 U, .int .u64 C, .int .i64 H, .int .i64 K] 24)).alloc (.cells #[.int .i64 ao, .int .i64 az] 31)) = w0 at HA ⊢
  have c0 := HA.out.1.sa.c0
  go_upto_region 2 with (go_at_call 35; refine (HR.out _).mono ?_; rintro e5 w5 ⟨rfl, hw5⟩; obtain rfl := hw5.symm)
  have c1 := HA.out.1.a0
  have c2 := HA.out.1.a1
  go_quiet (fail)
  have HB : Hid (Below w.heap.size w (w0.drewN nq)) := Below.ofSm HA.out.2 ⟨rfl, rfl, rfl, rfl⟩
  go_wp2
  go_ret
  exact ⟨rfl, HB.out⟩
set_option maxHeartbeats 3200000 in
set_option maxRecDepth 100000 in
theorem area_2 (U C H K ao az mode : Int) (hot : Nat) (w : World) (h1 : 0 ≤ H) (h2 : H ≤ 4194304) (k1 : 0 ≤ K) (k2 : K ≤ 134217728) (z2 : az ≤ 9223372036854775807) (hg : roomG U mode hot = true) (hr : (roomF U mode hot : Int) ≤ az) (ho : ¬ ao % 4096 = 0) : Calls Try.prog 19 #[.agg #[.int .i64 U, .int .u64 C, .int .i64 H, .int .i64 K], .agg #[.int .i64 ao, .int .i64 az], .int .i64 mode, .int .u64 (hot : Nat)] w fun e w' => Hid (e = .returned (.bool (false)) ∧ Below w.heap.size w w') := by
  have HR : Hid (∀ v, Calls Try.prog 35 #[.int .i64 U, .int .i64 mode, .int .u64 (hot : Nat)] v fun e w' => e = .returned (.tuple #[.int .i64 (roomF U mode hot : Nat), .int .i64 0]) ∧ w' = v) := fun v => by
    have q := room_ok U mode hot v
    rw [show roomE U mode hot = 0 by simp [roomE, hg]] at q
    exact q
  generalize roomF U mode hot = R at *
  have qr : decide ((R : Int) ≤ az) = true := by simpa using hr
  have qo : (ao.tmod 4096 == 0) = false := by rw [tmod_zero]; simpa using ho
  have HA : Hid (AAt ((w.alloc (.cells #[.int .i64 U, .int .u64 C, .int .i64 H, .int .i64 K] 24)).alloc (.cells #[.int .i64 ao, .int .i64 az] 31)) w.heap.size U C H K ao az ∧ Below w.heap.size w ((w.alloc (.cells #[.int .i64 U, .int .u64 C, .int .i64 H, .int .i64 K] 24)).alloc (.cells #[.int .i64 ao, .int .i64 az] 31))) := ⟨AAt.new _ _ _ _ _ _ _, AAt.nb _ _ _⟩
  clear hg hr ho
  go_enter Try.func19, Try.ntmps19
  go_upto_region 1 with fail
  generalize ((w.alloc (.cells #[.int .i64 U, .int .u64 C, .int .i64 H, .int .i64 K] 24)).alloc (.cells #[.int .i64 ao, .int .i64 az] 31)) = w0 at HA ⊢
  have c0 := HA.out.1.sa.c0
  go_upto_region 2 with (go_at_call 35; refine (HR.out _).mono ?_; rintro e5 w5 ⟨rfl, hw5⟩; obtain rfl := hw5.symm)
  have c1 := HA.out.1.a0
  have c2 := HA.out.1.a1
  go_quiet (fail)
  have HB : Hid (Below w.heap.size w (w0.drewN nq)) := Below.ofSm HA.out.2 ⟨rfl, rfl, rfl, rfl⟩
  go_wp2
  go_ret
  exact ⟨rfl, HB.out⟩
set_option maxHeartbeats 3200000 in
set_option maxRecDepth 100000 in
theorem area_3 (U C H K ao az mode : Int) (hot : Nat) (w : World) (h1 : 0 ≤ H) (h2 : H ≤ 4194304) (k1 : 0 ≤ K) (k2 : K ≤ 134217728) (z2 : az ≤ 9223372036854775807) (hg : roomG U mode hot = true) (hr : (roomF U mode hot : Int) ≤ az) (ho : ao % 4096 = 0) (hz : ¬ az % 4096 = 0) : Calls Try.prog 19 #[.agg #[.int .i64 U, .int .u64 C, .int .i64 H, .int .i64 K], .agg #[.int .i64 ao, .int .i64 az], .int .i64 mode, .int .u64 (hot : Nat)] w fun e w' => Hid (e = .returned (.bool (false)) ∧ Below w.heap.size w w') := by
  have HR : Hid (∀ v, Calls Try.prog 35 #[.int .i64 U, .int .i64 mode, .int .u64 (hot : Nat)] v fun e w' => e = .returned (.tuple #[.int .i64 (roomF U mode hot : Nat), .int .i64 0]) ∧ w' = v) := fun v => by
    have q := room_ok U mode hot v
    rw [show roomE U mode hot = 0 by simp [roomE, hg]] at q
    exact q
  generalize roomF U mode hot = R at *
  have qr : decide ((R : Int) ≤ az) = true := by simpa using hr
  have qo : (ao.tmod 4096 == 0) = true := by rw [tmod_zero]; simpa using ho
  have qz : (az.tmod 4096 == 0) = false := by rw [tmod_zero]; simpa using hz
  have HA : Hid (AAt ((w.alloc (.cells #[.int .i64 U, .int .u64 C, .int .i64 H, .int .i64 K] 24)).alloc (.cells #[.int .i64 ao, .int .i64 az] 31)) w.heap.size U C H K ao az ∧ Below w.heap.size w ((w.alloc (.cells #[.int .i64 U, .int .u64 C, .int .i64 H, .int .i64 K] 24)).alloc (.cells #[.int .i64 ao, .int .i64 az] 31))) := ⟨AAt.new _ _ _ _ _ _ _, AAt.nb _ _ _⟩
  clear hg hr ho hz
  go_enter Try.func19, Try.ntmps19
  go_upto_region 1 with fail
  generalize ((w.alloc (.cells #[.int .i64 U, .int .u64 C, .int .i64 H, .int .i64 K] 24)).alloc (.cells #[.int .i64 ao, .int .i64 az] 31)) = w0 at HA ⊢
  have c0 := HA.out.1.sa.c0
  go_upto_region 2 with (go_at_call 35; refine (HR.out _).mono ?_; rintro e5 w5 ⟨rfl, hw5⟩; obtain rfl := hw5.symm)
  have c1 := HA.out.1.a0
  have c2 := HA.out.1.a1
  go_quiet (fail)
  have HB : Hid (Below w.heap.size w (w0.drewN nq)) := Below.ofSm HA.out.2 ⟨rfl, rfl, rfl, rfl⟩
  go_wp2
  go_ret
  exact ⟨rfl, HB.out⟩
set_option maxHeartbeats 3200000 in
set_option maxRecDepth 100000 in
theorem area_4 (U C H K ao az mode : Int) (hot : Nat) (w : World) (h1 : 0 ≤ H) (h2 : H ≤ 4194304) (k1 : 0 ≤ K) (k2 : K ≤ 134217728) (z2 : az ≤ 9223372036854775807) (hg : roomG U mode hot = true) (hr : (roomF U mode hot : Int) ≤ az) (ho : ao % 4096 = 0) (hz : az % 4096 = 0) (hh : ¬ 2 * H ≤ ao) : Calls Try.prog 19 #[.agg #[.int .i64 U, .int .u64 C, .int .i64 H, .int .i64 K], .agg #[.int .i64 ao, .int .i64 az], .int .i64 mode, .int .u64 (hot : Nat)] w fun e w' => Hid (e = .returned (.bool (false)) ∧ Below w.heap.size w w') := by
  have HR : Hid (∀ v, Calls Try.prog 35 #[.int .i64 U, .int .i64 mode, .int .u64 (hot : Nat)] v fun e w' => e = .returned (.tuple #[.int .i64 (roomF U mode hot : Nat), .int .i64 0]) ∧ w' = v) := fun v => by
    have q := room_ok U mode hot v
    rw [show roomE U mode hot = 0 by simp [roomE, hg]] at q
    exact q
  generalize roomF U mode hot = R at *
  have qr : decide ((R : Int) ≤ az) = true := by simpa using hr
  have qo : (ao.tmod 4096 == 0) = true := by rw [tmod_zero]; simpa using ho
  have qz : (az.tmod 4096 == 0) = true := by rw [tmod_zero]; simpa using hz
  have qh : decide (2 * H ≤ ao) = false := by simpa using hh
  have HA : Hid (AAt ((w.alloc (.cells #[.int .i64 U, .int .u64 C, .int .i64 H, .int .i64 K] 24)).alloc (.cells #[.int .i64 ao, .int .i64 az] 31)) w.heap.size U C H K ao az ∧ Below w.heap.size w ((w.alloc (.cells #[.int .i64 U, .int .u64 C, .int .i64 H, .int .i64 K] 24)).alloc (.cells #[.int .i64 ao, .int .i64 az] 31))) := ⟨AAt.new _ _ _ _ _ _ _, AAt.nb _ _ _⟩
  clear hg ho hz hh
  go_enter Try.func19, Try.ntmps19
  go_upto_region 1 with fail
  generalize ((w.alloc (.cells #[.int .i64 U, .int .u64 C, .int .i64 H, .int .i64 K] 24)).alloc (.cells #[.int .i64 ao, .int .i64 az] 31)) = w0 at HA ⊢
  have c0 := HA.out.1.sa.c0
  go_upto_region 2 with (go_at_call 35; refine (HR.out _).mono ?_; rintro e5 w5 ⟨rfl, hw5⟩; obtain rfl := hw5.symm)
  have HK : Hid (∀ u, Calls Try.prog 44 #[.agg #[.int .i64 U, .int .u64 C, .int .i64 H, .int .i64 K]] u fun e w' => Hid (e = .returned (.int .i64 (2 * H)) ∧ Below u.heap.size u w')) := fun u => keys_ok U C H K u h1 h2
  clear c0
  have hS0 : Below w0.heap.size w0 w0.drew := (Below.refl _ _).drew
  have hrg : ∀ u, Below w0.heap.size w0 u → u.rangeAt w.heap.size 0 [.int .i64 U, .int .u64 C, .int .i64 H, .int .i64 K] := fun u hu j v hj => by
    have q := (HA.out.1.below hu).sa
    match j, hj with
    | 0, hj => simp at hj; subst hj; exact q.c0
    | 1, hj => simp at hj; subst hj; exact q.c1
    | 2, hj => simp at hj; subst hj; exact q.c2
    | 3, hj => simp at hj; subst hj; exact q.c3
  have hao : ∀ u, Below w0.heap.size w0 u → u.cell? ⟨w.heap.size + 1, 0, none⟩ = some (.int .i64 ao) := fun u hu => (HA.out.1.below hu).a0
  have haz : ∀ u, Below w0.heap.size w0 u → u.cell? ⟨w.heap.size + 1, 1, none⟩ = some (.int .i64 az) := fun u hu => (HA.out.1.below hu).a1
  refine wp_region_noPanic ?_
  refine wp_region_held_drew (S := fun u => Below w0.heap.size w0 u) (by kernel_rfl) (hS0) (fun _ => ?_)
  refine takeH_at 0 19 (.int .i64 0) rfl rfl (by kernel_rfl) (by kernel_rfl) (by kernel_rfl) (fun _ _ _ h => h) (hS0) (Or.inl ⟨by kernel_rfl, fun w' hS' => by go_simp⟩) ?_
  simp only [List.setIfInBounds_toArray, List.set_cons_zero, List.set_cons_succ]
  refine takeH_at 1 20 (.bool true) rfl rfl (by kernel_rfl) (by kernel_rfl) (by kernel_rfl) (fun _ _ _ h => h) (hS0) (Or.inl ⟨by kernel_rfl, fun w' hS' => by go_simp⟩) ?_
  simp only [List.setIfInBounds_toArray, List.set_cons_zero, List.set_cons_succ]
  refine takeH_at 2 21 (.bool true) rfl rfl (by kernel_rfl) (by kernel_rfl) (by kernel_rfl) (fun _ _ _ h => h) (hS0) (Or.inl ⟨by kernel_rfl, fun w' hS' => by go_simp⟩) ?_
  simp only [List.setIfInBounds_toArray, List.set_cons_zero, List.set_cons_succ]
  refine takeH_at 3 22 (.pointer (some ⟨w.heap.size + 1, 1, none⟩)) rfl rfl (by kernel_rfl) (by kernel_rfl) (by kernel_rfl) (fun _ _ _ h => h) (hS0) (Or.inl ⟨by kernel_rfl, fun w' hS' => by go_simp⟩) ?_
  simp only [List.setIfInBounds_toArray, List.set_cons_zero, List.set_cons_succ]
  refine takeH_at 4 23 (.int .i64 az) rfl rfl (by kernel_rfl) (by kernel_rfl) (by kernel_rfl) (fun _ _ _ h => h) (hS0) (Or.inl ⟨by kernel_rfl, fun w' hS' => by have q := haz w' hS'; go_simp⟩) ?_
  simp only [List.setIfInBounds_toArray, List.set_cons_zero, List.set_cons_succ]
  refine takeH_at 5 24 (.int .i64 (R : Nat)) rfl rfl (by kernel_rfl) (by kernel_rfl) (by kernel_rfl) (fun _ _ _ h => h) (hS0) (Or.inl ⟨by kernel_rfl, fun w' hS' => by go_simp⟩) ?_
  simp only [List.setIfInBounds_toArray, List.set_cons_zero, List.set_cons_succ]
  refine takeH_at 6 25 (.bool true) rfl rfl (by kernel_rfl) (by kernel_rfl) (by kernel_rfl) (fun _ _ _ h => h) (hS0) (Or.inl ⟨by kernel_rfl, fun w' hS' => by go_simp⟩) ?_
  simp only [List.setIfInBounds_toArray, List.set_cons_zero, List.set_cons_succ]
  refine takeH_at 7 26 (.bool true) rfl rfl (by kernel_rfl) (by kernel_rfl) (by kernel_rfl) (fun _ _ _ h => h) (hS0) (Or.inl ⟨by kernel_rfl, fun w' hS' => by go_simp⟩) ?_
  simp only [List.setIfInBounds_toArray, List.set_cons_zero, List.set_cons_succ]
  refine takeH_at 8 27 (.bool true) rfl rfl (by kernel_rfl) (by kernel_rfl) (by kernel_rfl) (fun _ _ _ h => h) (hS0) (Or.inl ⟨by kernel_rfl, fun w' hS' => by go_simp⟩) ?_
  simp only [List.setIfInBounds_toArray, List.set_cons_zero, List.set_cons_succ]
  refine takeH_at 9 28 (.pointer (some ⟨w.heap.size + 1, 0, none⟩)) rfl rfl (by kernel_rfl) (by kernel_rfl) (by kernel_rfl) (fun _ _ _ h => h) (hS0) (Or.inl ⟨by kernel_rfl, fun w' hS' => by go_simp⟩) ?_
  simp only [List.setIfInBounds_toArray, List.set_cons_zero, List.set_cons_succ]
  refine takeH_at 10 29 (.int .i64 ao) rfl rfl (by kernel_rfl) (by kernel_rfl) (by kernel_rfl) (fun _ _ _ h => h) (hS0) (Or.inl ⟨by kernel_rfl, fun w' hS' => by have q := hao w' hS'; go_simp⟩) ?_
  simp only [List.setIfInBounds_toArray, List.set_cons_zero, List.set_cons_succ]
  refine takeH_at 11 30 (.int .i64 (ao.tmod 4096)) rfl rfl (by kernel_rfl) (by kernel_rfl) (by kernel_rfl) (fun _ _ _ h => h) (hS0) (Or.inl ⟨by kernel_rfl, fun w' hS' => by go_simp⟩) ?_
  simp only [List.setIfInBounds_toArray, List.set_cons_zero, List.set_cons_succ]
  refine takeH_at 12 31 (.bool true) rfl rfl (by kernel_rfl) (by kernel_rfl) (by kernel_rfl) (fun _ _ _ h => h) (hS0) (Or.inl ⟨by kernel_rfl, fun w' hS' => by go_simp⟩) ?_
  simp only [List.setIfInBounds_toArray, List.set_cons_zero, List.set_cons_succ]
  refine takeH_at 13 32 (.bool true) rfl rfl (by kernel_rfl) (by kernel_rfl) (by kernel_rfl) (fun _ _ _ h => h) (hS0) (Or.inl ⟨by kernel_rfl, fun w' hS' => by go_simp⟩) ?_
  simp only [List.setIfInBounds_toArray, List.set_cons_zero, List.set_cons_succ]
  refine takeH_at 14 33 (.bool true) rfl rfl (by kernel_rfl) (by kernel_rfl) (by kernel_rfl) (fun _ _ _ h => h) (hS0) (Or.inl ⟨by kernel_rfl, fun w' hS' => by go_simp⟩) ?_
  simp only [List.setIfInBounds_toArray, List.set_cons_zero, List.set_cons_succ]
  refine takeH_at 15 34 (.pointer (some ⟨w.heap.size + 1, 1, none⟩)) rfl rfl (by kernel_rfl) (by kernel_rfl) (by kernel_rfl) (fun _ _ _ h => h) (hS0) (Or.inl ⟨by kernel_rfl, fun w' hS' => by go_simp⟩) ?_
  simp only [List.setIfInBounds_toArray, List.set_cons_zero, List.set_cons_succ]
  refine takeH_at 16 35 (.int .i64 az) rfl rfl (by kernel_rfl) (by kernel_rfl) (by kernel_rfl) (fun _ _ _ h => h) (hS0) (Or.inl ⟨by kernel_rfl, fun w' hS' => by have q := haz w' hS'; go_simp⟩) ?_
  simp only [List.setIfInBounds_toArray, List.set_cons_zero, List.set_cons_succ]
  refine takeH_at 17 36 (.int .i64 (az.tmod 4096)) rfl rfl (by kernel_rfl) (by kernel_rfl) (by kernel_rfl) (fun _ _ _ h => h) (hS0) (Or.inl ⟨by kernel_rfl, fun w' hS' => by go_simp⟩) ?_
  simp only [List.setIfInBounds_toArray, List.set_cons_zero, List.set_cons_succ]
  refine takeH_at 18 37 (.bool true) rfl rfl (by kernel_rfl) (by kernel_rfl) (by kernel_rfl) (fun _ _ _ h => h) (hS0) (Or.inl ⟨by kernel_rfl, fun w' hS' => by go_simp⟩) ?_
  simp only [List.setIfInBounds_toArray, List.set_cons_zero, List.set_cons_succ]
  refine takeH_at 19 38 (.bool true) rfl rfl (by kernel_rfl) (by kernel_rfl) (by kernel_rfl) (fun _ _ _ h => h) (hS0) (Or.inl ⟨by kernel_rfl, fun w' hS' => by go_simp⟩) ?_
  simp only [List.setIfInBounds_toArray, List.set_cons_zero, List.set_cons_succ]
  refine takeH_at 20 39 (.bool true) rfl rfl (by kernel_rfl) (by kernel_rfl) (by kernel_rfl) (fun _ _ _ h => h) (hS0) (Or.inl ⟨by kernel_rfl, fun w' hS' => by go_simp⟩) ?_
  simp only [List.setIfInBounds_toArray, List.set_cons_zero, List.set_cons_succ]
  refine takeH_at 21 40 (.pointer (some ⟨w.heap.size + 1, 0, none⟩)) rfl rfl (by kernel_rfl) (by kernel_rfl) (by kernel_rfl) (fun _ _ _ h => h) (hS0) (Or.inl ⟨by kernel_rfl, fun w' hS' => by go_simp⟩) ?_
  simp only [List.setIfInBounds_toArray, List.set_cons_zero, List.set_cons_succ]
  refine takeH_at 22 41 (.int .i64 ao) rfl rfl (by kernel_rfl) (by kernel_rfl) (by kernel_rfl) (fun _ _ _ h => h) (hS0) (Or.inl ⟨by kernel_rfl, fun w' hS' => by have q := hao w' hS'; go_simp⟩) ?_
  simp only [List.setIfInBounds_toArray, List.set_cons_zero, List.set_cons_succ]
  refine takeH_at 23 42 (.agg #[.int .i64 U, .int .u64 C, .int .i64 H, .int .i64 K]) rfl rfl (by kernel_rfl) (by kernel_rfl) (by kernel_rfl) (fun _ _ _ h => h) (hS0) (yieldsIf_load_mid (by kernel_rfl) 24 (.tmp 4) rfl w.heap.size 0 rfl [.int .i64 U, .int .u64 C, .int .i64 H, .int .i64 K] _ hrg Try.underlying24 rfl (by kernel_rfl)) ?_
  simp only [List.setIfInBounds_toArray, List.set_cons_zero, List.set_cons_succ]
  refine wpAnyH_ready (rs := [24]) (by kernel_rfl) (by simp) ?_
  refine AllReadyH.cons rfl (fun Kx hK => ?_) AllReadyH.nil
  rw [if_pos (by kernel_rfl)]
  go_simp
  refine (HK.out _).mono ?_
  intro e1 q1 hh
  obtain ⟨he, hq1⟩ := hh.out
  subst he
  have hS1 : Below w0.heap.size w0 q1 := (hS0).trans (hq1.mono (hS0).size)
  clear hh
  go_wp2_with fail
  refine hK.out _ _ hS1 (fun _ => ?_)
  clear hK Kx
  try simp only [Act.put, List.setIfInBounds_toArray, List.set_cons_zero, List.set_cons_succ]
  refine takeH_at 25 44 (.bool false) rfl rfl (by kernel_rfl) (by kernel_rfl) (by kernel_rfl) (fun _ _ _ h => h) (hS1) (Or.inl ⟨by kernel_rfl, fun w' hS' => by go_simp⟩) ?_
  simp only [List.setIfInBounds_toArray, List.set_cons_zero, List.set_cons_succ]
  refine takeH_at 26 45 (.bool false) rfl rfl (by kernel_rfl) (by kernel_rfl) (by kernel_rfl) (fun _ _ _ h => h) (hS1) (Or.inl ⟨by kernel_rfl, fun w' hS' => by go_simp⟩) ?_
  simp only [List.setIfInBounds_toArray, List.set_cons_zero, List.set_cons_succ]
  refine takeH_at 27 46 (.bool false) rfl rfl (by kernel_rfl) (by kernel_rfl) (by kernel_rfl) (fun _ _ _ h => h) (hS1) (Or.inl ⟨by kernel_rfl, fun w' hS' => by go_simp⟩) ?_
  simp only [List.setIfInBounds_toArray, List.set_cons_zero, List.set_cons_succ]
  refine takeH_at 28 47 undef rfl rfl (by kernel_rfl) (by kernel_rfl) (by kernel_rfl) (fun _ _ _ h => h) (hS1) (Or.inr ⟨by kernel_rfl, rfl⟩) ?_
  simp only [List.setIfInBounds_toArray, List.set_cons_zero, List.set_cons_succ]
  refine takeH_at 29 48 undef rfl rfl (by kernel_rfl) (by kernel_rfl) (by kernel_rfl) (fun _ _ _ h => h) (hS1) (Or.inr ⟨by kernel_rfl, rfl⟩) ?_
  simp only [List.setIfInBounds_toArray, List.set_cons_zero, List.set_cons_succ]
  refine takeH_at 30 49 undef rfl rfl (by kernel_rfl) (by kernel_rfl) (by kernel_rfl) (fun _ _ _ h => h) (hS1) (Or.inr ⟨by kernel_rfl, rfl⟩) ?_
  simp only [List.setIfInBounds_toArray, List.set_cons_zero, List.set_cons_succ]
  refine takeH_at 31 50 undef rfl rfl (by kernel_rfl) (by kernel_rfl) (by kernel_rfl) (fun _ _ _ h => h) (hS1) (Or.inr ⟨by kernel_rfl, rfl⟩) ?_
  simp only [List.setIfInBounds_toArray, List.set_cons_zero, List.set_cons_succ]
  refine takeH_at 32 51 undef rfl rfl (by kernel_rfl) (by kernel_rfl) (by kernel_rfl) (fun _ _ _ h => h) (hS1) (Or.inr ⟨by kernel_rfl, rfl⟩) ?_
  simp only [List.setIfInBounds_toArray, List.set_cons_zero, List.set_cons_succ]
  refine takeH_at 33 52 undef rfl rfl (by kernel_rfl) (by kernel_rfl) (by kernel_rfl) (fun _ _ _ h => h) (hS1) (Or.inr ⟨by kernel_rfl, rfl⟩) ?_
  simp only [List.setIfInBounds_toArray, List.set_cons_zero, List.set_cons_succ]
  refine takeH_at 34 53 undef rfl rfl (by kernel_rfl) (by kernel_rfl) (by kernel_rfl) (fun _ _ _ h => h) (hS1) (Or.inr ⟨by kernel_rfl, rfl⟩) ?_
  simp only [List.setIfInBounds_toArray, List.set_cons_zero, List.set_cons_succ]
  refine takeH_at 35 54 undef rfl rfl (by kernel_rfl) (by kernel_rfl) (by kernel_rfl) (fun _ _ _ h => h) (hS1) (Or.inr ⟨by kernel_rfl, rfl⟩) ?_
  simp only [List.setIfInBounds_toArray, List.set_cons_zero, List.set_cons_succ]
  refine takeH_at 36 55 (.bool false) rfl rfl (by kernel_rfl) (by kernel_rfl) (by kernel_rfl) (fun _ _ _ h => h) (hS1) (Or.inl ⟨by kernel_rfl, fun w' hS' => by go_simp⟩) ?_
  simp only [List.setIfInBounds_toArray, List.set_cons_zero, List.set_cons_succ]
  refine takeH_at 37 8 (.bool false) rfl rfl (by kernel_rfl) (by kernel_rfl) (by kernel_rfl) (fun _ _ _ h => h) (hS1) (Or.inl ⟨by kernel_rfl, fun w' hS' => by go_simp⟩) ?_
  simp only [List.setIfInBounds_toArray, List.set_cons_zero, List.set_cons_succ]
  refine wpAnyH_done (by kernel_rfl) ?_ _
  refine NoPanic.normal ?_
  go_wp2_with fail
  go_ret
  exact ⟨rfl, HA.out.2.trans (hS1.mono HA.out.2.size)⟩
set_option maxHeartbeats 3200000 in
set_option maxRecDepth 100000 in
theorem area_5 (U C H K ao az mode : Int) (hot : Nat) (w : World) (h1 : 0 ≤ H) (h2 : H ≤ 4194304) (k1 : 0 ≤ K) (k2 : K ≤ 134217728) (z2 : az ≤ 9223372036854775807) (hg : roomG U mode hot = true) (hr : (roomF U mode hot : Int) ≤ az) (ho : ao % 4096 = 0) (hz : az % 4096 = 0) (hh : 2 * H ≤ ao) : Calls Try.prog 19 #[.agg #[.int .i64 U, .int .u64 C, .int .i64 H, .int .i64 K], .agg #[.int .i64 ao, .int .i64 az], .int .i64 mode, .int .u64 (hot : Nat)] w fun e w' => Hid (e = .returned (.bool (decide (ao ≤ 2 * H + K - az))) ∧ Below w.heap.size w w') := by
  have HR : Hid (∀ v, Calls Try.prog 35 #[.int .i64 U, .int .i64 mode, .int .u64 (hot : Nat)] v fun e w' => e = .returned (.tuple #[.int .i64 (roomF U mode hot : Nat), .int .i64 0]) ∧ w' = v) := fun v => by
    have q := room_ok U mode hot v
    rw [show roomE U mode hot = 0 by simp [roomE, hg]] at q
    exact q
  generalize roomF U mode hot = R at *
  have qr : decide ((R : Int) ≤ az) = true := by simpa using hr
  have qo : (ao.tmod 4096 == 0) = true := by rw [tmod_zero]; simpa using ho
  have qz : (az.tmod 4096 == 0) = true := by rw [tmod_zero]; simpa using hz
  have qh : decide (2 * H ≤ ao) = true := by simpa using hh
  have HA : Hid (AAt ((w.alloc (.cells #[.int .i64 U, .int .u64 C, .int .i64 H, .int .i64 K] 24)).alloc (.cells #[.int .i64 ao, .int .i64 az] 31)) w.heap.size U C H K ao az ∧ Below w.heap.size w ((w.alloc (.cells #[.int .i64 U, .int .u64 C, .int .i64 H, .int .i64 K] 24)).alloc (.cells #[.int .i64 ao, .int .i64 az] 31))) := ⟨AAt.new _ _ _ _ _ _ _, AAt.nb _ _ _⟩
  have ew : IntKind.i64.wrap (2 * H + K - az) = 2 * H + K - az := by rw [IntKind.wrap_i64]; omega
  clear hg ho hz
  go_enter Try.func19, Try.ntmps19
  go_upto_region 1 with fail
  generalize ((w.alloc (.cells #[.int .i64 U, .int .u64 C, .int .i64 H, .int .i64 K] 24)).alloc (.cells #[.int .i64 ao, .int .i64 az] 31)) = w0 at HA ⊢
  have c0 := HA.out.1.sa.c0
  go_upto_region 2 with (go_at_call 35; refine (HR.out _).mono ?_; rintro e5 w5 ⟨rfl, hw5⟩; obtain rfl := hw5.symm)
  have HK : Hid (∀ u, Calls Try.prog 44 #[.agg #[.int .i64 U, .int .u64 C, .int .i64 H, .int .i64 K]] u fun e w' => Hid (e = .returned (.int .i64 (2 * H)) ∧ Below u.heap.size u w')) := fun u => keys_ok U C H K u h1 h2
  have HD : Hid (∀ u, Calls Try.prog 43 #[.agg #[.int .i64 U, .int .u64 C, .int .i64 H, .int .i64 K]] u fun e w' => Hid (e = .returned (.int .i64 (2 * H + K)) ∧ Below u.heap.size u w')) := fun u => data_ok U C H K u h1 h2 k1 k2
  clear c0
  have hS0 : Below w0.heap.size w0 w0.drew := (Below.refl _ _).drew
  have hrg : ∀ u, Below w0.heap.size w0 u → u.rangeAt w.heap.size 0 [.int .i64 U, .int .u64 C, .int .i64 H, .int .i64 K] := fun u hu j v hj => by
    have q := (HA.out.1.below hu).sa
    match j, hj with
    | 0, hj => simp at hj; subst hj; exact q.c0
    | 1, hj => simp at hj; subst hj; exact q.c1
    | 2, hj => simp at hj; subst hj; exact q.c2
    | 3, hj => simp at hj; subst hj; exact q.c3
  have hao : ∀ u, Below w0.heap.size w0 u → u.cell? ⟨w.heap.size + 1, 0, none⟩ = some (.int .i64 ao) := fun u hu => (HA.out.1.below hu).a0
  have haz : ∀ u, Below w0.heap.size w0 u → u.cell? ⟨w.heap.size + 1, 1, none⟩ = some (.int .i64 az) := fun u hu => (HA.out.1.below hu).a1
  refine wp_region_noPanic ?_
  refine wp_region_held_drew (S := fun u => Below w0.heap.size w0 u) (by kernel_rfl) (hS0) (fun _ => ?_)
  refine takeH_at 0 19 (.int .i64 0) rfl rfl (by kernel_rfl) (by kernel_rfl) (by kernel_rfl) (fun _ _ _ h => h) (hS0) (Or.inl ⟨by kernel_rfl, fun w' hS' => by go_simp⟩) ?_
  simp only [List.setIfInBounds_toArray, List.set_cons_zero, List.set_cons_succ]
  refine takeH_at 1 20 (.bool true) rfl rfl (by kernel_rfl) (by kernel_rfl) (by kernel_rfl) (fun _ _ _ h => h) (hS0) (Or.inl ⟨by kernel_rfl, fun w' hS' => by go_simp⟩) ?_
  simp only [List.setIfInBounds_toArray, List.set_cons_zero, List.set_cons_succ]
  refine takeH_at 2 21 (.bool true) rfl rfl (by kernel_rfl) (by kernel_rfl) (by kernel_rfl) (fun _ _ _ h => h) (hS0) (Or.inl ⟨by kernel_rfl, fun w' hS' => by go_simp⟩) ?_
  simp only [List.setIfInBounds_toArray, List.set_cons_zero, List.set_cons_succ]
  refine takeH_at 3 22 (.pointer (some ⟨w.heap.size + 1, 1, none⟩)) rfl rfl (by kernel_rfl) (by kernel_rfl) (by kernel_rfl) (fun _ _ _ h => h) (hS0) (Or.inl ⟨by kernel_rfl, fun w' hS' => by go_simp⟩) ?_
  simp only [List.setIfInBounds_toArray, List.set_cons_zero, List.set_cons_succ]
  refine takeH_at 4 23 (.int .i64 az) rfl rfl (by kernel_rfl) (by kernel_rfl) (by kernel_rfl) (fun _ _ _ h => h) (hS0) (Or.inl ⟨by kernel_rfl, fun w' hS' => by have q := haz w' hS'; go_simp⟩) ?_
  simp only [List.setIfInBounds_toArray, List.set_cons_zero, List.set_cons_succ]
  refine takeH_at 5 24 (.int .i64 (R : Nat)) rfl rfl (by kernel_rfl) (by kernel_rfl) (by kernel_rfl) (fun _ _ _ h => h) (hS0) (Or.inl ⟨by kernel_rfl, fun w' hS' => by go_simp⟩) ?_
  simp only [List.setIfInBounds_toArray, List.set_cons_zero, List.set_cons_succ]
  refine takeH_at 6 25 (.bool true) rfl rfl (by kernel_rfl) (by kernel_rfl) (by kernel_rfl) (fun _ _ _ h => h) (hS0) (Or.inl ⟨by kernel_rfl, fun w' hS' => by go_simp⟩) ?_
  simp only [List.setIfInBounds_toArray, List.set_cons_zero, List.set_cons_succ]
  refine takeH_at 7 26 (.bool true) rfl rfl (by kernel_rfl) (by kernel_rfl) (by kernel_rfl) (fun _ _ _ h => h) (hS0) (Or.inl ⟨by kernel_rfl, fun w' hS' => by go_simp⟩) ?_
  simp only [List.setIfInBounds_toArray, List.set_cons_zero, List.set_cons_succ]
  refine takeH_at 8 27 (.bool true) rfl rfl (by kernel_rfl) (by kernel_rfl) (by kernel_rfl) (fun _ _ _ h => h) (hS0) (Or.inl ⟨by kernel_rfl, fun w' hS' => by go_simp⟩) ?_
  simp only [List.setIfInBounds_toArray, List.set_cons_zero, List.set_cons_succ]
  refine takeH_at 9 28 (.pointer (some ⟨w.heap.size + 1, 0, none⟩)) rfl rfl (by kernel_rfl) (by kernel_rfl) (by kernel_rfl) (fun _ _ _ h => h) (hS0) (Or.inl ⟨by kernel_rfl, fun w' hS' => by go_simp⟩) ?_
  simp only [List.setIfInBounds_toArray, List.set_cons_zero, List.set_cons_succ]
  refine takeH_at 10 29 (.int .i64 ao) rfl rfl (by kernel_rfl) (by kernel_rfl) (by kernel_rfl) (fun _ _ _ h => h) (hS0) (Or.inl ⟨by kernel_rfl, fun w' hS' => by have q := hao w' hS'; go_simp⟩) ?_
  simp only [List.setIfInBounds_toArray, List.set_cons_zero, List.set_cons_succ]
  refine takeH_at 11 30 (.int .i64 (ao.tmod 4096)) rfl rfl (by kernel_rfl) (by kernel_rfl) (by kernel_rfl) (fun _ _ _ h => h) (hS0) (Or.inl ⟨by kernel_rfl, fun w' hS' => by go_simp⟩) ?_
  simp only [List.setIfInBounds_toArray, List.set_cons_zero, List.set_cons_succ]
  refine takeH_at 12 31 (.bool true) rfl rfl (by kernel_rfl) (by kernel_rfl) (by kernel_rfl) (fun _ _ _ h => h) (hS0) (Or.inl ⟨by kernel_rfl, fun w' hS' => by go_simp⟩) ?_
  simp only [List.setIfInBounds_toArray, List.set_cons_zero, List.set_cons_succ]
  refine takeH_at 13 32 (.bool true) rfl rfl (by kernel_rfl) (by kernel_rfl) (by kernel_rfl) (fun _ _ _ h => h) (hS0) (Or.inl ⟨by kernel_rfl, fun w' hS' => by go_simp⟩) ?_
  simp only [List.setIfInBounds_toArray, List.set_cons_zero, List.set_cons_succ]
  refine takeH_at 14 33 (.bool true) rfl rfl (by kernel_rfl) (by kernel_rfl) (by kernel_rfl) (fun _ _ _ h => h) (hS0) (Or.inl ⟨by kernel_rfl, fun w' hS' => by go_simp⟩) ?_
  simp only [List.setIfInBounds_toArray, List.set_cons_zero, List.set_cons_succ]
  refine takeH_at 15 34 (.pointer (some ⟨w.heap.size + 1, 1, none⟩)) rfl rfl (by kernel_rfl) (by kernel_rfl) (by kernel_rfl) (fun _ _ _ h => h) (hS0) (Or.inl ⟨by kernel_rfl, fun w' hS' => by go_simp⟩) ?_
  simp only [List.setIfInBounds_toArray, List.set_cons_zero, List.set_cons_succ]
  refine takeH_at 16 35 (.int .i64 az) rfl rfl (by kernel_rfl) (by kernel_rfl) (by kernel_rfl) (fun _ _ _ h => h) (hS0) (Or.inl ⟨by kernel_rfl, fun w' hS' => by have q := haz w' hS'; go_simp⟩) ?_
  simp only [List.setIfInBounds_toArray, List.set_cons_zero, List.set_cons_succ]
  refine takeH_at 17 36 (.int .i64 (az.tmod 4096)) rfl rfl (by kernel_rfl) (by kernel_rfl) (by kernel_rfl) (fun _ _ _ h => h) (hS0) (Or.inl ⟨by kernel_rfl, fun w' hS' => by go_simp⟩) ?_
  simp only [List.setIfInBounds_toArray, List.set_cons_zero, List.set_cons_succ]
  refine takeH_at 18 37 (.bool true) rfl rfl (by kernel_rfl) (by kernel_rfl) (by kernel_rfl) (fun _ _ _ h => h) (hS0) (Or.inl ⟨by kernel_rfl, fun w' hS' => by go_simp⟩) ?_
  simp only [List.setIfInBounds_toArray, List.set_cons_zero, List.set_cons_succ]
  refine takeH_at 19 38 (.bool true) rfl rfl (by kernel_rfl) (by kernel_rfl) (by kernel_rfl) (fun _ _ _ h => h) (hS0) (Or.inl ⟨by kernel_rfl, fun w' hS' => by go_simp⟩) ?_
  simp only [List.setIfInBounds_toArray, List.set_cons_zero, List.set_cons_succ]
  refine takeH_at 20 39 (.bool true) rfl rfl (by kernel_rfl) (by kernel_rfl) (by kernel_rfl) (fun _ _ _ h => h) (hS0) (Or.inl ⟨by kernel_rfl, fun w' hS' => by go_simp⟩) ?_
  simp only [List.setIfInBounds_toArray, List.set_cons_zero, List.set_cons_succ]
  refine takeH_at 21 40 (.pointer (some ⟨w.heap.size + 1, 0, none⟩)) rfl rfl (by kernel_rfl) (by kernel_rfl) (by kernel_rfl) (fun _ _ _ h => h) (hS0) (Or.inl ⟨by kernel_rfl, fun w' hS' => by go_simp⟩) ?_
  simp only [List.setIfInBounds_toArray, List.set_cons_zero, List.set_cons_succ]
  refine takeH_at 22 41 (.int .i64 ao) rfl rfl (by kernel_rfl) (by kernel_rfl) (by kernel_rfl) (fun _ _ _ h => h) (hS0) (Or.inl ⟨by kernel_rfl, fun w' hS' => by have q := hao w' hS'; go_simp⟩) ?_
  simp only [List.setIfInBounds_toArray, List.set_cons_zero, List.set_cons_succ]
  refine takeH_at 23 42 (.agg #[.int .i64 U, .int .u64 C, .int .i64 H, .int .i64 K]) rfl rfl (by kernel_rfl) (by kernel_rfl) (by kernel_rfl) (fun _ _ _ h => h) (hS0) (yieldsIf_load_mid (by kernel_rfl) 24 (.tmp 4) rfl w.heap.size 0 rfl [.int .i64 U, .int .u64 C, .int .i64 H, .int .i64 K] _ hrg Try.underlying24 rfl (by kernel_rfl)) ?_
  simp only [List.setIfInBounds_toArray, List.set_cons_zero, List.set_cons_succ]
  refine wpAnyH_ready (rs := [24]) (by kernel_rfl) (by simp) ?_
  refine AllReadyH.cons rfl (fun Kx hK => ?_) AllReadyH.nil
  rw [if_pos (by kernel_rfl)]
  go_simp
  refine (HK.out _).mono ?_
  intro e1 q1 hh
  obtain ⟨he, hq1⟩ := hh.out
  subst he
  have hS1 : Below w0.heap.size w0 q1 := (hS0).trans (hq1.mono (hS0).size)
  clear hh
  go_wp2_with fail
  refine hK.out _ _ hS1 (fun _ => ?_)
  clear hK Kx
  try simp only [Act.put, List.setIfInBounds_toArray, List.set_cons_zero, List.set_cons_succ]
  refine takeH_at 25 44 (.bool true) rfl rfl (by kernel_rfl) (by kernel_rfl) (by kernel_rfl) (fun _ _ _ h => h) (hS1) (Or.inl ⟨by kernel_rfl, fun w' hS' => by go_simp⟩) ?_
  simp only [List.setIfInBounds_toArray, List.set_cons_zero, List.set_cons_succ]
  refine takeH_at 26 45 (.bool true) rfl rfl (by kernel_rfl) (by kernel_rfl) (by kernel_rfl) (fun _ _ _ h => h) (hS1) (Or.inl ⟨by kernel_rfl, fun w' hS' => by go_simp⟩) ?_
  simp only [List.setIfInBounds_toArray, List.set_cons_zero, List.set_cons_succ]
  refine takeH_at 27 46 (.bool true) rfl rfl (by kernel_rfl) (by kernel_rfl) (by kernel_rfl) (fun _ _ _ h => h) (hS1) (Or.inl ⟨by kernel_rfl, fun w' hS' => by go_simp⟩) ?_
  simp only [List.setIfInBounds_toArray, List.set_cons_zero, List.set_cons_succ]
  refine takeH_at 28 47 (.pointer (some ⟨w.heap.size + 1, 0, none⟩)) rfl rfl (by kernel_rfl) (by kernel_rfl) (by kernel_rfl) (fun _ _ _ h => h) (hS1) (Or.inl ⟨by kernel_rfl, fun w' hS' => by go_simp⟩) ?_
  simp only [List.setIfInBounds_toArray, List.set_cons_zero, List.set_cons_succ]
  refine takeH_at 29 48 (.int .i64 ao) rfl rfl (by kernel_rfl) (by kernel_rfl) (by kernel_rfl) (fun _ _ _ h => h) (hS1) (Or.inl ⟨by kernel_rfl, fun w' hS' => by have q := hao w' hS'; go_simp⟩) ?_
  simp only [List.setIfInBounds_toArray, List.set_cons_zero, List.set_cons_succ]
  refine takeH_at 30 49 (.agg #[.int .i64 U, .int .u64 C, .int .i64 H, .int .i64 K]) rfl rfl (by kernel_rfl) (by kernel_rfl) (by kernel_rfl) (fun _ _ _ h => h) (hS1) (yieldsIf_load_mid (by kernel_rfl) 24 (.tmp 4) rfl w.heap.size 0 rfl [.int .i64 U, .int .u64 C, .int .i64 H, .int .i64 K] _ hrg Try.underlying24 rfl (by kernel_rfl)) ?_
  simp only [List.setIfInBounds_toArray, List.set_cons_zero, List.set_cons_succ]
  refine takeH_at 32 51 (.pointer (some ⟨w.heap.size + 1, 1, none⟩)) rfl rfl (by kernel_rfl) (by kernel_rfl) (by kernel_rfl) (fun _ _ _ h => h) (hS1) (Or.inl ⟨by kernel_rfl, fun w' hS' => by go_simp⟩) ?_
  simp only [List.setIfInBounds_toArray, List.set_cons_zero, List.set_cons_succ]
  refine takeH_at 33 52 (.int .i64 az) rfl rfl (by kernel_rfl) (by kernel_rfl) (by kernel_rfl) (fun _ _ _ h => h) (hS1) (Or.inl ⟨by kernel_rfl, fun w' hS' => by have q := haz w' hS'; go_simp⟩) ?_
  simp only [List.setIfInBounds_toArray, List.set_cons_zero, List.set_cons_succ]
  refine wpAnyH_ready (rs := [31]) (by kernel_rfl) (by simp) ?_
  refine AllReadyH.cons rfl (fun Kx hK => ?_) AllReadyH.nil
  rw [if_pos (by kernel_rfl)]
  go_simp
  refine (HD.out _).mono ?_
  intro e1 q2 hh
  obtain ⟨he, hq2⟩ := hh.out
  subst he
  have hS2 : Below w0.heap.size w0 q2 := (hS1).trans (hq2.mono (hS1).size)
  clear hh
  go_wp2_with fail
  refine hK.out _ _ hS2 (fun _ => ?_)
  clear hK Kx
  try simp only [Act.put, List.setIfInBounds_toArray, List.set_cons_zero, List.set_cons_succ]
  refine takeH_at 34 53 (.int .i64 (2 * H + K - az)) rfl rfl (by kernel_rfl) (by kernel_rfl) (by kernel_rfl) (fun _ _ _ h => h) (hS2) (Or.inl ⟨by kernel_rfl, fun w' hS' => by go_simp⟩) ?_
  simp only [List.setIfInBounds_toArray, List.set_cons_zero, List.set_cons_succ]
  refine takeH_at 35 54 (.bool (decide (ao ≤ 2 * H + K - az))) rfl rfl (by kernel_rfl) (by kernel_rfl) (by kernel_rfl) (fun _ _ _ h => h) (hS2) (Or.inl ⟨by kernel_rfl, fun w' hS' => by go_simp⟩) ?_
  simp only [List.setIfInBounds_toArray, List.set_cons_zero, List.set_cons_succ]
  refine takeH_at 36 55 (.bool (decide (ao ≤ 2 * H + K - az))) rfl rfl (by kernel_rfl) (by kernel_rfl) (by kernel_rfl) (fun _ _ _ h => h) (hS2) (Or.inl ⟨by kernel_rfl, fun w' hS' => by go_simp⟩) ?_
  simp only [List.setIfInBounds_toArray, List.set_cons_zero, List.set_cons_succ]
  refine takeH_at 37 8 (.bool (decide (ao ≤ 2 * H + K - az))) rfl rfl (by kernel_rfl) (by kernel_rfl) (by kernel_rfl) (fun _ _ _ h => h) (hS2) (Or.inl ⟨by kernel_rfl, fun w' hS' => by go_simp⟩) ?_
  simp only [List.setIfInBounds_toArray, List.set_cons_zero, List.set_cons_succ]
  refine wpAnyH_done (by kernel_rfl) ?_ _
  refine NoPanic.normal ?_
  go_wp2_with fail
  go_ret
  exact ⟨rfl, HA.out.2.trans (hS2.mono HA.out.2.size)⟩
set_option maxHeartbeats 3200000 in
set_option maxRecDepth 100000 in
theorem rarea_0 (U C H K ao az mode : Int) (hot : Nat) (w : World) (h1 : 0 ≤ H) (h2 : H ≤ 4194304) (k1 : 0 ≤ K) (k2 : K ≤ 134217728) (z2 : az ≤ 9223372036854775807) (hg : roomG U mode hot = false) : Calls Try.prog 27 #[.agg #[.int .i64 U, .int .u64 C, .int .i64 H, .int .i64 K], .agg #[.int .i64 ao, .int .i64 az], .int .i64 mode, .int .u64 (hot : Nat)] w fun e w' => Hid (e = .returned (.bool (false)) ∧ Below w.heap.size w w') := by
  have HR : Hid (∀ v, Calls Try.prog 36 #[.int .i64 U, .int .i64 mode, .int .u64 (hot : Nat)] v fun e w' => e = .returned (.tuple #[.int .i64 (roomF U mode hot : Nat), .int .i64 2]) ∧ w' = v) := fun v => by
    have q := rroom_ok U mode hot v
    rw [show roomE U mode hot = 2 by simp [roomE, hg]] at q
    exact q
  generalize roomF U mode hot = R at *
  have HA : Hid (AAt ((w.alloc (.cells #[.int .i64 U, .int .u64 C, .int .i64 H, .int .i64 K] 24)).alloc (.cells #[.int .i64 ao, .int .i64 az] 31)) w.heap.size U C H K ao az ∧ Below w.heap.size w ((w.alloc (.cells #[.int .i64 U, .int .u64 C, .int .i64 H, .int .i64 K] 24)).alloc (.cells #[.int .i64 ao, .int .i64 az] 31))) := ⟨AAt.new _ _ _ _ _ _ _, AAt.nb _ _ _⟩
  have e2 : IntKind.i64.wrap (2 * H) = 2 * H := by rw [IntKind.wrap_i64]; omega
  have e3 : IntKind.i64.wrap (2 * H + K) = 2 * H + K := by rw [IntKind.wrap_i64]; omega
  clear hg
  go_enter Try.func27, Try.ntmps27
  go_upto_region 1 with fail
  generalize ((w.alloc (.cells #[.int .i64 U, .int .u64 C, .int .i64 H, .int .i64 K] 24)).alloc (.cells #[.int .i64 ao, .int .i64 az] 31)) = w0 at HA ⊢
  have c0 := HA.out.1.sa.c0
  have c2 := HA.out.1.sa.c2
  have c3 := HA.out.1.sa.c3
  have a0 := HA.out.1.a0
  have a1 := HA.out.1.a1
  go_wp2_with (go_at_call 36; refine (HR.out _).mono ?_; rintro e5 w5 ⟨rfl, hw5⟩; obtain rfl := hw5.symm)
  all_goals
    go_ret
    exact ⟨rfl, HA.out.2⟩
set_option maxHeartbeats 3200000 in
set_option maxRecDepth 100000 in
theorem rarea_1 (U C H K ao az mode : Int) (hot : Nat) (w : World) (h1 : 0 ≤ H) (h2 : H ≤ 4194304) (k1 : 0 ≤ K) (k2 : K ≤ 134217728) (z2 : az ≤ 9223372036854775807) (hg : roomG U mode hot = true) (ho : ¬ ao % 4096 = 0) : Calls Try.prog 27 #[.agg #[.int .i64 U, .int .u64 C, .int .i64 H, .int .i64 K], .agg #[.int .i64 ao, .int .i64 az], .int .i64 mode, .int .u64 (hot : Nat)] w fun e w' => Hid (e = .returned (.bool (false)) ∧ Below w.heap.size w w') := by
  have HR : Hid (∀ v, Calls Try.prog 36 #[.int .i64 U, .int .i64 mode, .int .u64 (hot : Nat)] v fun e w' => e = .returned (.tuple #[.int .i64 (roomF U mode hot : Nat), .int .i64 0]) ∧ w' = v) := fun v => by
    have q := rroom_ok U mode hot v
    rw [show roomE U mode hot = 0 by simp [roomE, hg]] at q
    exact q
  generalize roomF U mode hot = R at *
  have qo : (ao.tmod 4096 == 0) = false := by rw [tmod_zero]; simpa using ho
  have qo2 : (ao.tmod 4096 != 0) = true := by simp only [bne, qo]; rfl
  have HA : Hid (AAt ((w.alloc (.cells #[.int .i64 U, .int .u64 C, .int .i64 H, .int .i64 K] 24)).alloc (.cells #[.int .i64 ao, .int .i64 az] 31)) w.heap.size U C H K ao az ∧ Below w.heap.size w ((w.alloc (.cells #[.int .i64 U, .int .u64 C, .int .i64 H, .int .i64 K] 24)).alloc (.cells #[.int .i64 ao, .int .i64 az] 31))) := ⟨AAt.new _ _ _ _ _ _ _, AAt.nb _ _ _⟩
  have e2 : IntKind.i64.wrap (2 * H) = 2 * H := by rw [IntKind.wrap_i64]; omega
  have e3 : IntKind.i64.wrap (2 * H + K) = 2 * H + K := by rw [IntKind.wrap_i64]; omega
  clear hg ho
  go_enter Try.func27, Try.ntmps27
  go_upto_region 1 with fail
  generalize ((w.alloc (.cells #[.int .i64 U, .int .u64 C, .int .i64 H, .int .i64 K] 24)).alloc (.cells #[.int .i64 ao, .int .i64 az] 31)) = w0 at HA ⊢
  have c0 := HA.out.1.sa.c0
  have c2 := HA.out.1.sa.c2
  have c3 := HA.out.1.sa.c3
  have a0 := HA.out.1.a0
  have a1 := HA.out.1.a1
  go_wp2_with (go_at_call 36; refine (HR.out _).mono ?_; rintro e5 w5 ⟨rfl, hw5⟩; obtain rfl := hw5.symm)
  all_goals
    go_ret
    exact ⟨rfl, HA.out.2⟩
set_option maxHeartbeats 3200000 in
set_option maxRecDepth 100000 in
theorem rarea_2 (U C H K ao az mode : Int) (hot : Nat) (w : World) (h1 : 0 ≤ H) (h2 : H ≤ 4194304) (k1 : 0 ≤ K) (k2 : K ≤ 134217728) (z2 : az ≤ 9223372036854775807) (hg : roomG U mode hot = true) (ho : ao % 4096 = 0) (hz : ¬ az % 4096 = 0) : Calls Try.prog 27 #[.agg #[.int .i64 U, .int .u64 C, .int .i64 H, .int .i64 K], .agg #[.int .i64 ao, .int .i64 az], .int .i64 mode, .int .u64 (hot : Nat)] w fun e w' => Hid (e = .returned (.bool (false)) ∧ Below w.heap.size w w') := by
  have HR : Hid (∀ v, Calls Try.prog 36 #[.int .i64 U, .int .i64 mode, .int .u64 (hot : Nat)] v fun e w' => e = .returned (.tuple #[.int .i64 (roomF U mode hot : Nat), .int .i64 0]) ∧ w' = v) := fun v => by
    have q := rroom_ok U mode hot v
    rw [show roomE U mode hot = 0 by simp [roomE, hg]] at q
    exact q
  generalize roomF U mode hot = R at *
  have qo : (ao.tmod 4096 == 0) = true := by rw [tmod_zero]; simpa using ho
  have qo2 : (ao.tmod 4096 != 0) = false := by simp only [bne, qo]; rfl
  have qz : (az.tmod 4096 == 0) = false := by rw [tmod_zero]; simpa using hz
  have qz2 : (az.tmod 4096 != 0) = true := by simp only [bne, qz]; rfl
  have HA : Hid (AAt ((w.alloc (.cells #[.int .i64 U, .int .u64 C, .int .i64 H, .int .i64 K] 24)).alloc (.cells #[.int .i64 ao, .int .i64 az] 31)) w.heap.size U C H K ao az ∧ Below w.heap.size w ((w.alloc (.cells #[.int .i64 U, .int .u64 C, .int .i64 H, .int .i64 K] 24)).alloc (.cells #[.int .i64 ao, .int .i64 az] 31))) := ⟨AAt.new _ _ _ _ _ _ _, AAt.nb _ _ _⟩
  have e2 : IntKind.i64.wrap (2 * H) = 2 * H := by rw [IntKind.wrap_i64]; omega
  have e3 : IntKind.i64.wrap (2 * H + K) = 2 * H + K := by rw [IntKind.wrap_i64]; omega
  clear hg ho hz
  go_enter Try.func27, Try.ntmps27
  go_upto_region 1 with fail
  generalize ((w.alloc (.cells #[.int .i64 U, .int .u64 C, .int .i64 H, .int .i64 K] 24)).alloc (.cells #[.int .i64 ao, .int .i64 az] 31)) = w0 at HA ⊢
  have c0 := HA.out.1.sa.c0
  have c2 := HA.out.1.sa.c2
  have c3 := HA.out.1.sa.c3
  have a0 := HA.out.1.a0
  have a1 := HA.out.1.a1
  go_wp2_with (go_at_call 36; refine (HR.out _).mono ?_; rintro e5 w5 ⟨rfl, hw5⟩; obtain rfl := hw5.symm)
  all_goals
    go_ret
    exact ⟨rfl, HA.out.2⟩
set_option maxHeartbeats 3200000 in
set_option maxRecDepth 100000 in
theorem rarea_3 (U C H K ao az mode : Int) (hot : Nat) (w : World) (h1 : 0 ≤ H) (h2 : H ≤ 4194304) (k1 : 0 ≤ K) (k2 : K ≤ 134217728) (z2 : az ≤ 9223372036854775807) (hg : roomG U mode hot = true) (ho : ao % 4096 = 0) (hz : az % 4096 = 0) (hr : ¬ (roomF U mode hot : Int) ≤ az) : Calls Try.prog 27 #[.agg #[.int .i64 U, .int .u64 C, .int .i64 H, .int .i64 K], .agg #[.int .i64 ao, .int .i64 az], .int .i64 mode, .int .u64 (hot : Nat)] w fun e w' => Hid (e = .returned (.bool (false)) ∧ Below w.heap.size w w') := by
  have HR : Hid (∀ v, Calls Try.prog 36 #[.int .i64 U, .int .i64 mode, .int .u64 (hot : Nat)] v fun e w' => e = .returned (.tuple #[.int .i64 (roomF U mode hot : Nat), .int .i64 0]) ∧ w' = v) := fun v => by
    have q := rroom_ok U mode hot v
    rw [show roomE U mode hot = 0 by simp [roomE, hg]] at q
    exact q
  generalize roomF U mode hot = R at *
  have qo : (ao.tmod 4096 == 0) = true := by rw [tmod_zero]; simpa using ho
  have qo2 : (ao.tmod 4096 != 0) = false := by simp only [bne, qo]; rfl
  have qz : (az.tmod 4096 == 0) = true := by rw [tmod_zero]; simpa using hz
  have qz2 : (az.tmod 4096 != 0) = false := by simp only [bne, qz]; rfl
  have qr : decide ((R : Int) ≤ az) = false := by simpa using hr
  have HA : Hid (AAt ((w.alloc (.cells #[.int .i64 U, .int .u64 C, .int .i64 H, .int .i64 K] 24)).alloc (.cells #[.int .i64 ao, .int .i64 az] 31)) w.heap.size U C H K ao az ∧ Below w.heap.size w ((w.alloc (.cells #[.int .i64 U, .int .u64 C, .int .i64 H, .int .i64 K] 24)).alloc (.cells #[.int .i64 ao, .int .i64 az] 31))) := ⟨AAt.new _ _ _ _ _ _ _, AAt.nb _ _ _⟩
  have e2 : IntKind.i64.wrap (2 * H) = 2 * H := by rw [IntKind.wrap_i64]; omega
  have e3 : IntKind.i64.wrap (2 * H + K) = 2 * H + K := by rw [IntKind.wrap_i64]; omega
  clear hg ho hz hr
  go_enter Try.func27, Try.ntmps27
  go_upto_region 1 with fail
  generalize ((w.alloc (.cells #[.int .i64 U, .int .u64 C, .int .i64 H, .int .i64 K] 24)).alloc (.cells #[.int .i64 ao, .int .i64 az] 31)) = w0 at HA ⊢
  have c0 := HA.out.1.sa.c0
  have c2 := HA.out.1.sa.c2
  have c3 := HA.out.1.sa.c3
  have a0 := HA.out.1.a0
  have a1 := HA.out.1.a1
  go_wp2_with (go_at_call 36; refine (HR.out _).mono ?_; rintro e5 w5 ⟨rfl, hw5⟩; obtain rfl := hw5.symm)
  all_goals
    go_ret
    exact ⟨rfl, HA.out.2⟩
set_option maxHeartbeats 3200000 in
set_option maxRecDepth 100000 in
theorem rarea_4 (U C H K ao az mode : Int) (hot : Nat) (w : World) (h1 : 0 ≤ H) (h2 : H ≤ 4194304) (k1 : 0 ≤ K) (k2 : K ≤ 134217728) (z2 : az ≤ 9223372036854775807) (hg : roomG U mode hot = true) (ho : ao % 4096 = 0) (hz : az % 4096 = 0) (hr : (roomF U mode hot : Int) ≤ az) (hh : ¬ 2 * H ≤ ao) : Calls Try.prog 27 #[.agg #[.int .i64 U, .int .u64 C, .int .i64 H, .int .i64 K], .agg #[.int .i64 ao, .int .i64 az], .int .i64 mode, .int .u64 (hot : Nat)] w fun e w' => Hid (e = .returned (.bool (false)) ∧ Below w.heap.size w w') := by
  have HR : Hid (∀ v, Calls Try.prog 36 #[.int .i64 U, .int .i64 mode, .int .u64 (hot : Nat)] v fun e w' => e = .returned (.tuple #[.int .i64 (roomF U mode hot : Nat), .int .i64 0]) ∧ w' = v) := fun v => by
    have q := rroom_ok U mode hot v
    rw [show roomE U mode hot = 0 by simp [roomE, hg]] at q
    exact q
  generalize roomF U mode hot = R at *
  have qo : (ao.tmod 4096 == 0) = true := by rw [tmod_zero]; simpa using ho
  have qo2 : (ao.tmod 4096 != 0) = false := by simp only [bne, qo]; rfl
  have qz : (az.tmod 4096 == 0) = true := by rw [tmod_zero]; simpa using hz
  have qz2 : (az.tmod 4096 != 0) = false := by simp only [bne, qz]; rfl
  have qr : decide ((R : Int) ≤ az) = true := by simpa using hr
  have qh : decide (2 * H ≤ ao) = false := by simpa using hh
  have HA : Hid (AAt ((w.alloc (.cells #[.int .i64 U, .int .u64 C, .int .i64 H, .int .i64 K] 24)).alloc (.cells #[.int .i64 ao, .int .i64 az] 31)) w.heap.size U C H K ao az ∧ Below w.heap.size w ((w.alloc (.cells #[.int .i64 U, .int .u64 C, .int .i64 H, .int .i64 K] 24)).alloc (.cells #[.int .i64 ao, .int .i64 az] 31))) := ⟨AAt.new _ _ _ _ _ _ _, AAt.nb _ _ _⟩
  have e2 : IntKind.i64.wrap (2 * H) = 2 * H := by rw [IntKind.wrap_i64]; omega
  have e3 : IntKind.i64.wrap (2 * H + K) = 2 * H + K := by rw [IntKind.wrap_i64]; omega
  clear hg ho hz hr hh
  go_enter Try.func27, Try.ntmps27
  go_upto_region 1 with fail
  generalize ((w.alloc (.cells #[.int .i64 U, .int .u64 C, .int .i64 H, .int .i64 K] 24)).alloc (.cells #[.int .i64 ao, .int .i64 az] 31)) = w0 at HA ⊢
  have c0 := HA.out.1.sa.c0
  have c2 := HA.out.1.sa.c2
  have c3 := HA.out.1.sa.c3
  have a0 := HA.out.1.a0
  have a1 := HA.out.1.a1
  go_wp2_with (go_at_call 36; refine (HR.out _).mono ?_; rintro e5 w5 ⟨rfl, hw5⟩; obtain rfl := hw5.symm)
  all_goals
    go_ret
    exact ⟨rfl, HA.out.2⟩
set_option maxHeartbeats 3200000 in
set_option maxRecDepth 100000 in
theorem rarea_5 (U C H K ao az mode : Int) (hot : Nat) (w : World) (h1 : 0 ≤ H) (h2 : H ≤ 4194304) (k1 : 0 ≤ K) (k2 : K ≤ 134217728) (z2 : az ≤ 9223372036854775807) (hg : roomG U mode hot = true) (ho : ao % 4096 = 0) (hz : az % 4096 = 0) (hr : (roomF U mode hot : Int) ≤ az) (hh : 2 * H ≤ ao) (he : ¬ ao ≤ 2 * H + K) : Calls Try.prog 27 #[.agg #[.int .i64 U, .int .u64 C, .int .i64 H, .int .i64 K], .agg #[.int .i64 ao, .int .i64 az], .int .i64 mode, .int .u64 (hot : Nat)] w fun e w' => Hid (e = .returned (.bool (false)) ∧ Below w.heap.size w w') := by
  have HR : Hid (∀ v, Calls Try.prog 36 #[.int .i64 U, .int .i64 mode, .int .u64 (hot : Nat)] v fun e w' => e = .returned (.tuple #[.int .i64 (roomF U mode hot : Nat), .int .i64 0]) ∧ w' = v) := fun v => by
    have q := rroom_ok U mode hot v
    rw [show roomE U mode hot = 0 by simp [roomE, hg]] at q
    exact q
  generalize roomF U mode hot = R at *
  have qo : (ao.tmod 4096 == 0) = true := by rw [tmod_zero]; simpa using ho
  have qo2 : (ao.tmod 4096 != 0) = false := by simp only [bne, qo]; rfl
  have qz : (az.tmod 4096 == 0) = true := by rw [tmod_zero]; simpa using hz
  have qz2 : (az.tmod 4096 != 0) = false := by simp only [bne, qz]; rfl
  have qr : decide ((R : Int) ≤ az) = true := by simpa using hr
  have qh : decide (2 * H ≤ ao) = true := by simpa using hh
  have qe : decide (ao ≤ 2 * H + K) = false := by simpa using he
  have HA : Hid (AAt ((w.alloc (.cells #[.int .i64 U, .int .u64 C, .int .i64 H, .int .i64 K] 24)).alloc (.cells #[.int .i64 ao, .int .i64 az] 31)) w.heap.size U C H K ao az ∧ Below w.heap.size w ((w.alloc (.cells #[.int .i64 U, .int .u64 C, .int .i64 H, .int .i64 K] 24)).alloc (.cells #[.int .i64 ao, .int .i64 az] 31))) := ⟨AAt.new _ _ _ _ _ _ _, AAt.nb _ _ _⟩
  have e2 : IntKind.i64.wrap (2 * H) = 2 * H := by rw [IntKind.wrap_i64]; omega
  have e3 : IntKind.i64.wrap (2 * H + K) = 2 * H + K := by rw [IntKind.wrap_i64]; omega
  clear hg ho hz hr hh he
  go_enter Try.func27, Try.ntmps27
  go_upto_region 1 with fail
  generalize ((w.alloc (.cells #[.int .i64 U, .int .u64 C, .int .i64 H, .int .i64 K] 24)).alloc (.cells #[.int .i64 ao, .int .i64 az] 31)) = w0 at HA ⊢
  have c0 := HA.out.1.sa.c0
  have c2 := HA.out.1.sa.c2
  have c3 := HA.out.1.sa.c3
  have a0 := HA.out.1.a0
  have a1 := HA.out.1.a1
  go_wp2_with (go_at_call 36; refine (HR.out _).mono ?_; rintro e5 w5 ⟨rfl, hw5⟩; obtain rfl := hw5.symm)
  all_goals
    go_ret
    exact ⟨rfl, HA.out.2⟩
set_option maxHeartbeats 3200000 in
set_option maxRecDepth 100000 in
theorem rarea_6 (U C H K ao az mode : Int) (hot : Nat) (w : World) (h1 : 0 ≤ H) (h2 : H ≤ 4194304) (k1 : 0 ≤ K) (k2 : K ≤ 134217728) (z2 : az ≤ 9223372036854775807) (hg : roomG U mode hot = true) (ho : ao % 4096 = 0) (hz : az % 4096 = 0) (hr : (roomF U mode hot : Int) ≤ az) (hh : 2 * H ≤ ao) (he : ao ≤ 2 * H + K) : Calls Try.prog 27 #[.agg #[.int .i64 U, .int .u64 C, .int .i64 H, .int .i64 K], .agg #[.int .i64 ao, .int .i64 az], .int .i64 mode, .int .u64 (hot : Nat)] w fun e w' => Hid (e = .returned (.bool (decide (az ≤ 2 * H + K - ao))) ∧ Below w.heap.size w w') := by
  have HR : Hid (∀ v, Calls Try.prog 36 #[.int .i64 U, .int .i64 mode, .int .u64 (hot : Nat)] v fun e w' => e = .returned (.tuple #[.int .i64 (roomF U mode hot : Nat), .int .i64 0]) ∧ w' = v) := fun v => by
    have q := rroom_ok U mode hot v
    rw [show roomE U mode hot = 0 by simp [roomE, hg]] at q
    exact q
  generalize roomF U mode hot = R at *
  have qo : (ao.tmod 4096 == 0) = true := by rw [tmod_zero]; simpa using ho
  have qo2 : (ao.tmod 4096 != 0) = false := by simp only [bne, qo]; rfl
  have qz : (az.tmod 4096 == 0) = true := by rw [tmod_zero]; simpa using hz
  have qz2 : (az.tmod 4096 != 0) = false := by simp only [bne, qz]; rfl
  have qr : decide ((R : Int) ≤ az) = true := by simpa using hr
  have qh : decide (2 * H ≤ ao) = true := by simpa using hh
  have qe : decide (ao ≤ 2 * H + K) = true := by simpa using he
  have HA : Hid (AAt ((w.alloc (.cells #[.int .i64 U, .int .u64 C, .int .i64 H, .int .i64 K] 24)).alloc (.cells #[.int .i64 ao, .int .i64 az] 31)) w.heap.size U C H K ao az ∧ Below w.heap.size w ((w.alloc (.cells #[.int .i64 U, .int .u64 C, .int .i64 H, .int .i64 K] 24)).alloc (.cells #[.int .i64 ao, .int .i64 az] 31))) := ⟨AAt.new _ _ _ _ _ _ _, AAt.nb _ _ _⟩
  have e2 : IntKind.i64.wrap (2 * H) = 2 * H := by rw [IntKind.wrap_i64]; omega
  have e3 : IntKind.i64.wrap (2 * H + K) = 2 * H + K := by rw [IntKind.wrap_i64]; omega
  have ew : IntKind.i64.wrap (2 * H + K - ao) = 2 * H + K - ao := by rw [IntKind.wrap_i64]; omega
  clear hg ho hz hr hh he
  go_enter Try.func27, Try.ntmps27
  go_upto_region 1 with fail
  generalize ((w.alloc (.cells #[.int .i64 U, .int .u64 C, .int .i64 H, .int .i64 K] 24)).alloc (.cells #[.int .i64 ao, .int .i64 az] 31)) = w0 at HA ⊢
  have c0 := HA.out.1.sa.c0
  have c2 := HA.out.1.sa.c2
  have c3 := HA.out.1.sa.c3
  have a0 := HA.out.1.a0
  have a1 := HA.out.1.a1
  go_wp2_with (go_at_call 36; refine (HR.out _).mono ?_; rintro e5 w5 ⟨rfl, hw5⟩; obtain rfl := hw5.symm)
  all_goals
    go_ret
    exact ⟨rfl, HA.out.2⟩
theorem area_ok (U C H K ao az mode : Int) (hot : Nat) (w : World) (h1 : 0 ≤ H) (h2 : H ≤ 4194304) (k1 : 0 ≤ K) (k2 : K ≤ 134217728) (z2 : az ≤ 9223372036854775807) : Calls Try.prog 19 #[.agg #[.int .i64 U, .int .u64 C, .int .i64 H, .int .i64 K], .agg #[.int .i64 ao, .int .i64 az], .int .i64 mode, .int .u64 (hot : Nat)] w fun e w' => Hid (e = .returned (.bool (areaB U H K ao az mode hot)) ∧ Below w.heap.size w w') := by
  by_cases hg : roomG U mode hot = true
  · by_cases hr : (roomF U mode hot : Int) ≤ az
    · by_cases ho : ao % 4096 = 0
      · by_cases hz : az % 4096 = 0
        · by_cases hh : 2 * H ≤ ao
          · have e : areaB U H K ao az mode hot = decide (ao ≤ 2 * H + K - az) := by simp [areaB, hg, hr, ho, hz, hh]
            rw [e]; exact area_5 U C H K ao az mode hot w h1 h2 k1 k2 z2 hg hr ho hz hh
          · have e : areaB U H K ao az mode hot = false := by simp [areaB, hh]
            rw [e]; exact area_4 U C H K ao az mode hot w h1 h2 k1 k2 z2 hg hr ho hz hh
        · have e : areaB U H K ao az mode hot = false := by simp [areaB, hz]
          rw [e]; exact area_3 U C H K ao az mode hot w h1 h2 k1 k2 z2 hg hr ho hz
      · have e : areaB U H K ao az mode hot = false := by simp [areaB, ho]
        rw [e]; exact area_2 U C H K ao az mode hot w h1 h2 k1 k2 z2 hg hr ho
    · have e : areaB U H K ao az mode hot = false := by simp [areaB, hr]
      rw [e]; exact area_1 U C H K ao az mode hot w h1 h2 k1 k2 z2 hg hr
  · have hg' : roomG U mode hot = false := by simpa using hg
    have e : areaB U H K ao az mode hot = false := by simp [areaB, hg']
    rw [e]; exact area_0 U C H K ao az mode hot w h1 h2 k1 k2 z2 hg'
theorem rarea_ok (U C H K ao az mode : Int) (hot : Nat) (w : World) (h1 : 0 ≤ H) (h2 : H ≤ 4194304) (k1 : 0 ≤ K) (k2 : K ≤ 134217728) (z2 : az ≤ 9223372036854775807) : Calls Try.prog 27 #[.agg #[.int .i64 U, .int .u64 C, .int .i64 H, .int .i64 K], .agg #[.int .i64 ao, .int .i64 az], .int .i64 mode, .int .u64 (hot : Nat)] w fun e w' => Hid (e = .returned (.bool (areaB U H K ao az mode hot)) ∧ Below w.heap.size w w') := by
  by_cases hg : roomG U mode hot = true
  · by_cases ho : ao % 4096 = 0
    · by_cases hz : az % 4096 = 0
      · by_cases hr : (roomF U mode hot : Int) ≤ az
        · by_cases hh : 2 * H ≤ ao
          · by_cases he : ao ≤ 2 * H + K
            · have e : areaB U H K ao az mode hot = decide (az ≤ 2 * H + K - ao) := by
                have q : decide (ao ≤ 2 * H + K - az) = decide (az ≤ 2 * H + K - ao) := by rw [decide_eq_decide]; omega
                simp only [areaB, hg, decide_eq_true hr, decide_eq_true ho, decide_eq_true hz, decide_eq_true hh, q, Bool.true_and]
              rw [e]; exact rarea_6 U C H K ao az mode hot w h1 h2 k1 k2 z2 hg ho hz hr hh he
            · have e : areaB U H K ao az mode hot = false := by
                have q : ¬ ao ≤ 2 * H + K - az := by omega
                simp [areaB, q]
              rw [e]; exact rarea_5 U C H K ao az mode hot w h1 h2 k1 k2 z2 hg ho hz hr hh he
          · have e : areaB U H K ao az mode hot = false := by simp [areaB, hh]
            rw [e]; exact rarea_4 U C H K ao az mode hot w h1 h2 k1 k2 z2 hg ho hz hr hh
        · have e : areaB U H K ao az mode hot = false := by simp [areaB, hr]
          rw [e]; exact rarea_3 U C H K ao az mode hot w h1 h2 k1 k2 z2 hg ho hz hr
      · have e : areaB U H K ao az mode hot = false := by simp [areaB, hz]
        rw [e]; exact rarea_2 U C H K ao az mode hot w h1 h2 k1 k2 z2 hg ho hz
    · have e : areaB U H K ao az mode hot = false := by simp [areaB, ho]
      rw [e]; exact rarea_1 U C H K ao az mode hot w h1 h2 k1 k2 z2 hg ho
  · have hg' : roomG U mode hot = false := by simpa using hg
    have e : areaB U H K ao az mode hot = false := by simp [areaB, hg']
    rw [e]; exact rarea_0 U C H K ao az mode hot w h1 h2 k1 k2 z2 hg'
end Go.Proofs.Ytmfnhdflmnmooaa
namespace Go.Proofs.Ytmfnhdflmnmooaa
open Go.RowKit
set_option linter.unusedVariables false
set_option linter.unusedSimpArgs false
set_option maxRecDepth 100000 in
set_option maxHeartbeats 3200000 in
theorem eqSeg (x0 x1 x2 y0 y1 y2 : Int) (w : World) : (Op.equalIn 10000 65 (.agg #[.int .u64 x0, .int .u64 x1, .int .u64 x2]) (.agg #[.int .u64 y0, .int .u64 y1, .int .u64 y2])).run Try.prog w = .ok (decide (x0 = y0 ∧ x1 = y1 ∧ x2 = y2)) w := by
  have u5 := Try.underlying22
  have e : ∀ x y : Int, (Op.equalIn 9999 22 (.int .u64 x) (.int .u64 y)).run Try.prog w = .ok (decide (x = y)) w := fun x y => by
    rw [show (9999 : Nat) = 9998 + 1 from rfl, run_equalIn_int w 9998 22 .u64 .u64 x y u5]
    by_cases h : x = y
    · simp [h]
    · simp [h]
  have e0 := e x0 y0
  have e1 := e x1 y1
  have e2 := e x2 y2
  rw [show (10000 : Nat) = 9999 + 1 from rfl, Op.equalIn]
  simp only [Sem.run_bind, run_underlying Try.underlying65, Result.andThen_ok]
  go_simp
  by_cases h0 : x0 = y0 <;> by_cases h1 : x1 = y1 <;> by_cases h2 : x2 = y2 <;> simp [h0, h1, h2]
set_option maxRecDepth 100000 in
set_option maxHeartbeats 3200000 in
theorem sameG_some (g1 o1 g2 o2 c1 c2 n : Nat) (f1 f2 : Nat → Int × Int × Int) (hn : n ≤ 1000000000000000) (w : World) (h1 : LAt w g1 o1 n f1) (h2 : LAt w g2 o2 n f2) :
    Calls Try.prog 31 #[.slice (some ⟨g1, o1, none⟩) n c1, .slice (some ⟨g2, o2, none⟩) n c2] w fun e w' => ∃ b : Bool, e = .returned (.bool b) ∧ (b = true ↔ ∀ i, i < n → f1 i = f2 i) ∧ w.grownBy w' none := by
  go_enter Try.func31, Try.ntmps31
  go_wp2
  go_loopw [5] (fun i wr => ∃ k : Nat, k ≤ n ∧ i = .int .i64 k ∧ (∀ i, i < k → f1 i = f2 i) ∧ ∃ m, wr = w.drewN m) (fun i _ => n - (intOf i).toNat)
  case atStart => exact ⟨0, Nat.zero_le _, rfl, fun i hi => by omega, 0, rfl⟩
  case round =>
    obtain ⟨k, hk, rfl, hall, m, rfl⟩ := hrel
    by_cases hlt : k < n
    · obtain ⟨a1, a2, a3⟩ := h1.drew m k hlt
      obtain ⟨b1, b2, b3⟩ := h2.drew m k hlt
      by_cases heq : f1 k = f2 k
      · rw [← heq] at b1 b2 b3
        have HA : Hid (∀ i, i < k + 1 → f1 i = f2 i) := fun i hi => by
          by_cases c : i = k
          · rw [c]; exact heq
          · exact hall i (by omega)
        have HQ : ∀ u, (Op.equalIn 10000 65 (.agg #[.int .u64 (f1 k).1, .int .u64 (f1 k).2.1, .int .u64 (f1 k).2.2]) (.agg #[.int .u64 (f1 k).1, .int .u64 (f1 k).2.1, .int .u64 (f1 k).2.2])).run Try.prog u = .ok true u := fun u => eq51 _ _ _ u
        clear heq hall
        generalize f1 k = z at *
        generalize hw : w.drewN m = wr at *
        clear h1 h2
        go_wp2
        go_quiet (fail)
        go_wp2
        go_roundw
        case rel => exact ⟨k + 1, by omega, by go_num, HA.out, m + nq, by rw [← hw, World.drewN_drewN]⟩
        case measure => simp [intOf]; omega
      · have HQ : ∀ u, (Op.equalIn 10000 65 (.agg #[.int .u64 (f1 k).1, .int .u64 (f1 k).2.1, .int .u64 (f1 k).2.2]) (.agg #[.int .u64 (f2 k).1, .int .u64 (f2 k).2.1, .int .u64 (f2 k).2.2])).run Try.prog u = .ok false u := fun u => by
          rw [eqSeg, decide_eq_false]
          intro q
          exact heq (Prod.ext q.1 (Prod.ext q.2.1 q.2.2))
        have HN : Hid (¬ ∀ i, i < n → f1 i = f2 i) := fun q => heq (q k hlt)
        have HW : Hid (∀ j, w.grownBy ((w.drewN m).drewN j) none) := fun j => by rw [World.drewN_drewN]; exact grown_drewN w _
        clear heq hall
        generalize f1 k = z at *
        generalize f2 k = z2 at *
        generalize hw : w.drewN m = wr at *
        clear h1 h2
        go_wp2
        go_quiet (fail)
        go_wp2
        go_ret
        exact ⟨false, rfl, ⟨(fun h => by cases h), fun h => absurd h HN.out⟩, HW.out _⟩
    · obtain rfl : k = n := by omega
      go_wp2
      go_ret
      exact ⟨true, rfl, ⟨fun _ => hall, fun _ => rfl⟩, grown_drewN w m⟩
set_option maxRecDepth 100000 in
theorem sameG_unlike (p1 p2 : Option Addr) (n1 n2 c1 c2 : Nat) (h1 : n1 ≤ 1000000000000000) (h2 : n2 ≤ 1000000000000000) (hne : n1 ≠ n2) (w : World) : Calls Try.prog 31 #[.slice p1 n1 c1, .slice p2 n2 c2] w fun e w' => e = .returned (.bool false) ∧ w.grownBy w' none := by
  have q : ((n1 : Int) == (n2 : Int)) = false := by simp; omega
  go_enter Try.func31, Try.ntmps31
  go_wp2
  go_ret
  exact ⟨rfl, World.grownBy.refl _ _⟩
theorem sameG_ok {v1 v2 : Value} {n1 n2 : Nat} {f1 f2 : Nat → Int × Int × Int} (hn1 : n1 ≤ 1000000000000000) (hn2 : n2 ≤ 1000000000000000) (w : World) (h1 : SegV w v1 n1 f1) (h2 : SegV w v2 n2 f2) : Calls Try.prog 31 #[v1, v2] w fun e w' => ∃ b : Bool, e = .returned (.bool b) ∧ (b = true ↔ n1 = n2 ∧ ∀ i, i < n1 → f1 i = f2 i) ∧ w.grownBy w' none := by
  obtain ⟨p1, c1, rfl, k1⟩ := h1
  obtain ⟨p2, c2, rfl, k2⟩ := h2
  by_cases hne : n1 = n2
  · subst hne
    by_cases h : 0 < n1
    · obtain ⟨g1, o1, rfl, l1⟩ := k1 h
      obtain ⟨g2, o2, rfl, l2⟩ := k2 h
      refine (sameG_some g1 o1 g2 o2 c1 c2 n1 f1 f2 hn1 w l1 l2).mono ?_
      rintro e w' ⟨b, he, hb, hw⟩
      exact ⟨b, he, hb.trans ⟨fun q => ⟨rfl, q⟩, fun q => q.2⟩, hw⟩
    · obtain rfl : n1 = 0 := by omega
      refine (same_none p1 p2 c1 c2 w).mono ?_
      rintro e w' ⟨he, hw⟩
      exact ⟨true, he, ⟨fun _ => ⟨rfl, fun i hi => by omega⟩, fun _ => rfl⟩, hw⟩
  · refine (sameG_unlike p1 p2 n1 n2 c1 c2 hn1 hn2 hne w).mono ?_
    rintro e w' ⟨he, hw⟩
    exact ⟨false, he, ⟨(fun h => by cases h), fun h => absurd h.1 hne⟩, hw⟩
end Go.Proofs.Ytmfnhdflmnmooaa
namespace Go.Proofs.Ytmfnhdflmnmooaa.Sx
open Go.RowKit Go.Shelf
set_option linter.unusedVariables false
attribute [local go_sem] Oper.semAt_some
/-- A segment: Start, Count, Epoch. -/
abbrev Sg := Nat × Nat × Nat
abbrev sgL (x : Sg) : List Value := [.int .u64 (x.1 : Nat), .int .u64 (x.2.1 : Nat), .int .u64 (x.2.2 : Nat)]
abbrev sgV (x : Sg) : Value := .agg #[.int .u64 (x.1 : Nat), .int .u64 (x.2.1 : Nat), .int .u64 (x.2.2 : Nat)]
def kept (xs : List Sg) : List Sg := xs.filter fun x => decide (0 < x.2.1)
theorem kept_hit (pre : List Sg) {x : Sg} (h : 0 < x.2.1) : kept (pre ++ [x]) = kept pre ++ [x] := by simp [kept, h]
theorem kept_miss (pre : List Sg) {x : Sg} (h : ¬ 0 < x.2.1) : kept (pre ++ [x]) = kept pre := by simp [kept, h]
def row2 (x y : Sg) (i : Nat) : List Sg := kept ([x, y].take i)
theorem row2_0 (x y : Sg) : row2 x y 0 = [] := by simp [row2, kept]
theorem row2_1 (x y : Sg) : row2 x y 1 = kept [x] := by simp [row2]
theorem row2_2 (x y : Sg) : row2 x y 2 = kept [x, y] := by simp [row2]
theorem hit1 {x : Sg} (h : 0 < x.2.1) : kept [x] = [x] := by simp [kept, h]
theorem miss1 {x : Sg} (h : ¬ 0 < x.2.1) : kept [x] = [] := by simp [kept, h]
theorem kept_len1 (x : Sg) : (kept [x]).length < 2 := Nat.lt_of_le_of_lt (List.length_filter_le _ _) (by simp)
theorem kept_two (x y : Sg) : kept [x, y] = kept [x] ++ kept [y] := by rw [show [x, y] = [x] ++ [y] from rfl, kept, kept, kept, List.filter_append]
set_option maxRecDepth 100000 in
set_option maxHeartbeats 2000000 in
theorem seg1_in (F : Fence) (n : Nat) (hf : F.fn 53) (hro : F.round = none) (hn : 1 ≤ n) (l g : Nat) (x y : Sg) (J Jx : List Sg → World → Prop) (Kp : World → World → Prop)
    (W : World) (hJ : AbidesFrom W.heap.size J)
    (hY : ∀ pre z W, J pre W → pre.length < 2 → YieldAt F (n - 1) Try.prog l #[sgV z] W fun e W' =>
      (e = .returned (.bool true) ∧ J (pre ++ [z]) W' ∧ Kp W W') ∨ (e = .returned (.bool false) ∧ Jx (pre ++ [z]) W'))
    (c0 : W.cell? ⟨g, 0, none⟩ = some (.int .u64 (x.1 : Nat))) (c1 : W.cell? ⟨g, 1, none⟩ = some (.int .u64 (x.2.1 : Nat))) (c2 : W.cell? ⟨g, 2, none⟩ = some (.int .u64 (x.2.2 : Nat)))
    (c3 : W.cell? ⟨g, 3, none⟩ = some (.int .u64 (y.1 : Nat))) (c4 : W.cell? ⟨g, 4, none⟩ = some (.int .u64 (y.2.1 : Nat))) (c5 : W.cell? ⟨g, 5, none⟩ = some (.int .u64 (y.2.2 : Nat)))
    (h0 : J [] W) :
    CallsIn F n Try.prog 53 #[.func (.yield l) #[] #[], .pointer (some ⟨g, 0, none⟩)] W fun e W' => (∃ v, e = .returned v) ∧
      ((∃ ys, ys = kept [x, y] ∧ J ys W') ∨ (∃ pre, pre <+: kept [x, y] ∧ Jx pre W')) := by
  refine callsIn_of_wp Try.func53 rfl hf ?_ hro
  simp only [Try.ntmps53, List.size_toArray, List.length_cons, List.length_nil, Nat.reduceAdd, Nat.reduceSub, Array.replicate_succ, Array.replicate_zero, List.push_toArray, List.append_toArray, List.nil_append, List.cons_append]
  gi_wp2
  gi_loopw [6] (fun vi wr => ∃ i : Nat, i ≤ 2 ∧ vi = .int .i64 (i : Nat) ∧ J (row2 x y i) wr) (fun vi _ => 2 - (intOf vi).toNat)
  case atStart => exact ⟨0, by omega, rfl, by rw [row2_0]; exact h0⟩
  case round =>
    obtain ⟨i, hi, rfl, hJs⟩ := hrel
    have hi3 : i = 0 ∨ i = 1 ∨ i = 2 := by omega
    rcases hi3 with rfl | rfl | rfl
    · have hix : (Instr.index 97 (.agg #[.int .u64 (x.1 : Nat), .int .u64 (x.2.1 : Nat), .int .u64 (x.2.2 : Nat), .int .u64 (y.1 : Nat), .int .u64 (y.2.1 : Nat), .int .u64 (y.2.2 : Nat)]) (.int .i64 0)).run Try.prog wr = .ok (.agg #[.int .u64 (x.1 : Nat), .int .u64 (x.2.1 : Nat), .int .u64 (x.2.2 : Nat)]) wr := by kernel_rfl
      have hJ1 := hJ _ _ (wr.alloc (.cells #[.int .u64 (x.1 : Nat), .int .u64 (x.2.1 : Nat), .int .u64 (x.2.2 : Nat)] 65)) none hJs (World.grownBy_alloc wr _ none) (fun r e => by cases e)
      by_cases hx : 0 < x.2.1
      · have q : decide ((0 : Int) < (x.2.1 : Nat)) = true := by simp; omega
        obtain ⟨fn, tmps, assign, body, hy, hR⟩ := hY _ x _ hJ1 (by rw [row2_0]; simp)
        gi_wp2
        refine hR.mono ?_
        rintro e W3 (⟨rfl, hJ3, hk3⟩ | ⟨rfl, hJx3⟩)
        · gi_wp2
          go_roundw
          case rel => exact ⟨1, by omega, by go_num, by rw [row2_1, hit1 hx]; rw [row2_0] at hJ3; exact hJ3⟩
          case measure => simp [intOf]
        · gi_wp2
          refine bodyPost_ret (results_none rfl _ _ _) rfl ?_
          exact ⟨⟨_, rfl⟩, .inr ⟨_, by rw [row2_0, kept_two, hit1 hx]; exact List.prefix_append _ _, hJx3⟩⟩
      · have q : decide ((0 : Int) < (x.2.1 : Nat)) = false := by simp; omega
        gi_wp2
        refine ⟨fun _ h => (by cases h), ?_⟩
        gi_wp2
        go_roundw
        case rel => exact ⟨1, by omega, by go_num, by rw [row2_1, miss1 hx]; rw [row2_0] at hJ1; exact hJ1⟩
        case measure => simp [intOf]
    · have hix : (Instr.index 97 (.agg #[.int .u64 (x.1 : Nat), .int .u64 (x.2.1 : Nat), .int .u64 (x.2.2 : Nat), .int .u64 (y.1 : Nat), .int .u64 (y.2.1 : Nat), .int .u64 (y.2.2 : Nat)]) (.int .i64 1)).run Try.prog wr = .ok (.agg #[.int .u64 (y.1 : Nat), .int .u64 (y.2.1 : Nat), .int .u64 (y.2.2 : Nat)]) wr := by kernel_rfl
      have hJ1 := hJ _ _ (wr.alloc (.cells #[.int .u64 (y.1 : Nat), .int .u64 (y.2.1 : Nat), .int .u64 (y.2.2 : Nat)] 65)) none hJs (World.grownBy_alloc wr _ none) (fun r e => by cases e)
      by_cases hx : 0 < y.2.1
      · have q : decide ((0 : Int) < (y.2.1 : Nat)) = true := by simp; omega
        obtain ⟨fn, tmps, assign, body, hy, hR⟩ := hY _ y _ hJ1 (by rw [row2_1]; exact kept_len1 x)
        gi_wp2
        refine hR.mono ?_
        rintro e W3 (⟨rfl, hJ3, hk3⟩ | ⟨rfl, hJx3⟩)
        · gi_wp2
          go_roundw
          case rel => exact ⟨2, by omega, by go_num, by rw [row2_2, kept_two, hit1 hx]; rw [row2_1] at hJ3; exact hJ3⟩
          case measure => simp [intOf]
        · gi_wp2
          refine bodyPost_ret (results_none rfl _ _ _) rfl ?_
          exact ⟨⟨_, rfl⟩, .inr ⟨_, by rw [row2_1, kept_two, hit1 hx]; exact List.prefix_refl _, hJx3⟩⟩
      · have q : decide ((0 : Int) < (y.2.1 : Nat)) = false := by simp; omega
        gi_wp2
        refine ⟨fun _ h => (by cases h), ?_⟩
        gi_wp2
        go_roundw
        case rel => exact ⟨2, by omega, by go_num, by rw [row2_2, kept_two, miss1 hx, List.append_nil]; rw [row2_1] at hJ1; exact hJ1⟩
        case measure => simp [intOf]
    · gi_wp2
      go_end0
      exact ⟨⟨_, rfl⟩, .inl ⟨_, row2_2 x y, hJs⟩⟩
theorem seg_stops (F : Fence) (n : Nat) (hf : F.fn 53) (hro : F.round = none) (hn : 1 ≤ n) (g : Nat) (x y : Sg) (Kp : World → World → Prop) (w : World) (hg : g < w.heap.size)
    (c0 : w.cell? ⟨g, 0, none⟩ = some (.int .u64 (x.1 : Nat))) (c1 : w.cell? ⟨g, 1, none⟩ = some (.int .u64 (x.2.1 : Nat))) (c2 : w.cell? ⟨g, 2, none⟩ = some (.int .u64 (x.2.2 : Nat)))
    (c3 : w.cell? ⟨g, 3, none⟩ = some (.int .u64 (y.1 : Nat))) (c4 : w.cell? ⟨g, 4, none⟩ = some (.int .u64 (y.2.1 : Nat))) (c5 : w.cell? ⟨g, 5, none⟩ = some (.int .u64 (y.2.2 : Nat))) :
    SeqStopsK F n Try.prog 53 #[.pointer (some ⟨g, 0, none⟩)] (fun z : Sg => #[sgV z]) Kp (fun ys => ys = kept [x, y]) (fun pre => pre <+: kept [x, y]) 2 w := fun l J Jx W hW hJ _ hY h0 =>
  seg1_in F n hf hro hn l g x y J Jx Kp W hJ hY ((hW.cell (p := ⟨g, 0, none⟩) hg).trans c0) ((hW.cell (p := ⟨g, 1, none⟩) hg).trans c1) ((hW.cell (p := ⟨g, 2, none⟩) hg).trans c2) ((hW.cell (p := ⟨g, 3, none⟩) hg).trans c3) ((hW.cell (p := ⟨g, 4, none⟩) hg).trans c4) ((hW.cell (p := ⟨g, 5, none⟩) hg).trans c5) h0
end Go.Proofs.Ytmfnhdflmnmooaa.Sx
namespace Go.Proofs.Ytmfnhdflmnmooaa.Sx
open Go.RowKit Go.Shelf
set_option linter.unusedVariables false
attribute [local go_sem] Oper.semAt_some
theorem info53 : (Try.prog.info? 65).map (fun i => (i.zero, i.size, i.bytes)) = some (some (.agg #[.int .u64 0, .int .u64 0, .int .u64 0]), 3, 24) := by kernel_rfl
def Item (W : World) (B : Nat) (x : Sg) : Prop := W.heap[B]? = some (.cells #[.int .u64 (x.1 : Nat), .int .u64 (x.2.1 : Nat), .int .u64 (x.2.2 : Nat)] 65 (0, 0))
theorem Item.lt {W : World} {B : Nat} {x : Sg} (h : Item W B x) : B < W.heap.size := (Array.getElem?_eq_some_iff.1 h).1
theorem Item.c0 {W : World} {B : Nat} {x : Sg} (h : Item W B x) : W.cell? ⟨B, 0, none⟩ = some (.int .u64 (x.1 : Nat)) := by simp [World.cell?, show W.heap[B]? = _ from h]
theorem Item.c1 {W : World} {B : Nat} {x : Sg} (h : Item W B x) : W.cell? ⟨B, 1, none⟩ = some (.int .u64 (x.2.1 : Nat)) := by simp [World.cell?, show W.heap[B]? = _ from h]
theorem Item.c2 {W : World} {B : Nat} {x : Sg} (h : Item W B x) : W.cell? ⟨B, 2, none⟩ = some (.int .u64 (x.2.2 : Nat)) := by simp [World.cell?, show W.heap[B]? = _ from h]
theorem Item.new (W : World) (x : Sg) : Item (W.alloc (.cells #[.int .u64 (x.1 : Nat), .int .u64 (x.2.1 : Nat), .int .u64 (x.2.2 : Nat)] 65)) W.heap.size x := World.alloc_heap_new W _
theorem Item.kept {W W' : World} {row : Option Nat} {B : Nat} {x : Sg} (h : Item W B x) (hg : W.grownBy W' row) (hne : some B ≠ row) : Item W' B x := (hg.block B h.lt hne).trans h
theorem Item.own {X Y : World} {row : Option Nat} {B : Nat} {x : Sg} (h : Item X B x) (hg : X.grownBy Y row) (hrow : ∀ r, row = some r → ∃ o : Obj, X.heap[r]? = some o ∧ o.isCells = false) : Item Y B x := by
  refine h.kept hg (fun e' => ?_)
  obtain ⟨o, ho, hc⟩ := hrow B e'.symm
  rw [show X.heap[B]? = _ from h] at ho; cases ho; cases hc
theorem rangeNew (w : World) (cs : Array Value) (t : TypeId) (j : Nat) (v : Value) (h : cs[j]? = some v) : (w.alloc (.cells cs t)).cell? ⟨w.heap.size, j, none⟩ = some v := by
  have hh := World.alloc_heap_new w (.cells cs t)
  simp only [World.cell?]
  rw [hh]
  exact h
theorem three_new (w : World) (a b c : Value) (t : TypeId) : ∀ j u, [a, b, c][j]? = some u → (w.alloc (.cells #[a, b, c] t)).cell? ((⟨w.heap.size, 0, none⟩ : Addr).add j) = some u := by
  intro j u hj
  match j, hj with
  | 0, hj => simp at hj; subst hj; exact rangeNew w _ t _ _ rfl
  | 1, hj => simp at hj; subst hj; exact rangeNew w _ t _ _ rfl
  | 2, hj => simp at hj; subst hj; exact rangeNew w _ t _ _ rfl
def sgs (xs : List Sg) : List Value := xs.flatMap sgL
theorem sgs_snoc (pre : List Sg) (x : Sg) : sgs (pre ++ [x]) = sgs pre ++ sgL x := by simp [sgs]
theorem sgs_len (xs : List Sg) : (sgs xs).length = xs.length * 3 := by
  induction xs with
  | nil => rfl
  | cons x xs ih => simp [sgs] at ih ⊢; omega
set_option maxRecDepth 100000 in
set_option maxHeartbeats 4000000 in
theorem listed_in (F : Fence) (n : Nat) (h12 : F.fn 23) (h23 : F.fn 53) (hro : F.round = none) (hn : 3 ≤ n) (g : Nat) (x y : Sg) (w : World) (hg : g < w.heap.size)
    (c0 : w.cell? ⟨g, 0, none⟩ = some (.int .u64 (x.1 : Nat))) (c1 : w.cell? ⟨g, 1, none⟩ = some (.int .u64 (x.2.1 : Nat))) (c2 : w.cell? ⟨g, 2, none⟩ = some (.int .u64 (x.2.2 : Nat)))
    (c3 : w.cell? ⟨g, 3, none⟩ = some (.int .u64 (y.1 : Nat))) (c4 : w.cell? ⟨g, 4, none⟩ = some (.int .u64 (y.2.1 : Nat))) (c5 : w.cell? ⟨g, 5, none⟩ = some (.int .u64 (y.2.2 : Nat))) :
    CallsIn F n Try.prog 23 #[.func (.func 53) #[] #[.pointer (some ⟨g, 0, none⟩)]] w fun e W' => ∃ v, e = .returned v ∧ W'.ownsRow w.heap.size 65 3 v (kept [x, y]).length (sgs (kept [x, y])) ∧ (v = .slice none 0 0 ↔ kept [x, y] = []) ∧ Below w.heap.size w W' := by
  have h1 : 1 ≤ n := by omega
  obtain ⟨i0, hi, hz0, hz1, hz2⟩ := info_parts info53
  refine callsIn_of_wp_marks Try.func23 rfl h12 ?_ hro
  simp only [Try.ntmps23, List.size_toArray, List.length_cons, List.length_nil, Nat.reduceAdd, Nat.reduceSub, Array.replicate_succ, Array.replicate_zero, List.push_toArray, List.append_toArray, List.nil_append, List.cons_append]
  gi_wp2
  have bO := Boxed.new w 29 (.slice none 0 0)
  have hB0 : Below w.heap.size w (w.alloc (.cells #[.slice none 0 0] 29)) := (Below.refl _ w).alloc (Nat.le_refl _) _
  have k : ∀ (o : Nat) (v : Value), w.cell? ⟨g, o, none⟩ = some v → (w.alloc (.cells #[.slice none 0 0] 29)).cell? ⟨g, o, none⟩ = some v := fun o v h => (hB0.cell (p := ⟨g, o, none⟩) hg).trans h
  refine wpIn_rangeFunc_ownH hro h1 (gf := 53) (lb := #[.pointer (some ⟨g, 0, none⟩)]) rfl h23 (enters_of Try.func53 (by kernel_rfl) rfl)
    (seg_stops F (n - 1) h23 hro (by omega) g x y (Below w.heap.size) (w.alloc (.cells #[.slice none 0 0] 29)) (by simp; omega) (k _ _ c0) (k _ _ c1) (k _ _ c2) (k _ _ c3) (k _ _ c4) (k _ _ c5)) belowK_t (belowK_b (by simp)) (Below.refl _ _) (fun _ => rfl)
    (fun pre W => (∃ v, Boxed W w.heap.size 29 v ∧ W.ownsRow w.heap.size 65 3 v pre.length (sgs pre) ∧ (v = .slice none 0 0 ↔ pre = [])) ∧ Below w.heap.size w W)
    (fun _ _ _ => False)
    (OwnFrom.and (Own.from (holdsRow_own w.heap.size w.heap.size 29 65 3 (fun pre : List Sg => pre.length) (fun pre => sgs pre) (fun pre v => v = .slice none 0 0 ↔ pre = [])) _) (ownFrom_below (Nat.le_refl _) (by simp)))
    (fun _ _ _ _ _ hs _ _ => hs)
    ⟨⟨_, bO, World.ownsRow_nil _ _ _ _, by simp⟩, hB0⟩
    (fun x a' W => ∃ Bx, w.heap.size < Bx ∧ Item W Bx x ∧ a' = { tmps := #[.func (.func 53) #[] #[.pointer (some ⟨g, 0, none⟩)], undef, .slice none 0 0, .pointer (some ⟨w.heap.size, 0, none⟩), .pointer (some ⟨Bx, 0, none⟩), .func (.func 53) #[] #[.pointer (some ⟨g, 0, none⟩)], sgV x, undef, undef, undef, undef, undef], defers := [] })
    (fun x a' _ X Y row hs hg hr => by obtain ⟨Bx, h1, h2, h3⟩ := hs; exact ⟨Bx, h1, h2.own hg (fun r e => (hr r e).2), h3⟩)
    ?assign ?body ?done ?stop
  case assign =>
    rintro l pre z W K ⟨⟨v, hv, hrow, hnil⟩, hB⟩ hK
    gi_wp2
    exact hK _ _ ((KeepsOthers.alloc _ _).from _) ((Below.refl _ W).alloc hB.size _) ⟨⟨v, hv.alloc _, hrow.alloc _, hnil⟩, hB.alloc hB.size _⟩ ⟨W.heap.size, hv.lt, Item.new W z, rfl⟩
  case body =>
    rintro l pre z a' W hl ⟨r, hr⟩ ⟨⟨v, hv, hrow, hnil⟩, hB⟩ ⟨Bx, hBx, bX, rfl⟩ hlt
    have hc := hv.cell
    have d0 := bX.c0
    have d1 := bX.c1
    have d2 := bX.c2
    gi_wp2_with (gi_at_builtin; refine wpListIn_append_own _ rfl _ _ 29 rfl w.heap.size 65 i0 (.agg #[.int .u64 0, .int .u64 0, .int .u64 0]) 3 24 Try.underlying29 hi hz0 hz1 hz2 rfl (by decide) _ _ _ rfl (hrow.alloc _) ⟨W.heap.size, 0, none⟩ 1 1 (sgL z) rfl rfl (three_new _ _ _ _ _) (by simp [Value.oneCell']) (by unfold maxLen; omega) (by omega) (by have := hB.size; simp; omega) ?_; intro v' w1 hown' hgrow _; obtain ⟨g', cap', rfl⟩ := ownsRow_succ hown'; obtain ⟨hv1, hv2, hr2, hk2, hb2⟩ := hv.appended (by decide) hrow hB.size (Nat.le_refl _) hown' hgrow; have hc1 := hv1.cell; have hf1 := hv1.frozen)
    exact ⟨hk2.from _, hb2, ⟨_, hv2, by rw [sgs_snoc]; simpa using hr2, by simp⟩, hB.trans hb2⟩
  case done =>
    rintro D ys W hD rfl ⟨⟨v, hv, hrow, hnil⟩, hB⟩ hK
    have hc := hv.cell
    gi_wp2
    refine ⟨by simp, .inl ⟨_, _, rfl, run_takeDeferred hK, ?_⟩⟩
    exact ⟨_, results_tmp rfl _ _ _, v, rfl, ownsRow_putObj hrow _ hK rfl, hnil, hB.trans (belowK_b (w := w) (Nat.le_refl _) W D _ _ (by simp at hD; omega) hK rfl rfl)⟩
  case stop =>
    rintro D c pre W _ _ h _
    exact h.elim
theorem listed_ok (g : Nat) (x y : Sg) (w : World) (hg : g < w.heap.size)
    (c0 : w.cell? ⟨g, 0, none⟩ = some (.int .u64 (x.1 : Nat))) (c1 : w.cell? ⟨g, 1, none⟩ = some (.int .u64 (x.2.1 : Nat))) (c2 : w.cell? ⟨g, 2, none⟩ = some (.int .u64 (x.2.2 : Nat)))
    (c3 : w.cell? ⟨g, 3, none⟩ = some (.int .u64 (y.1 : Nat))) (c4 : w.cell? ⟨g, 4, none⟩ = some (.int .u64 (y.2.1 : Nat))) (c5 : w.cell? ⟨g, 5, none⟩ = some (.int .u64 (y.2.2 : Nat))) :
    Calls Try.prog 23 #[.func (.func 53) #[] #[.pointer (some ⟨g, 0, none⟩)]] w fun e W' => ∃ v, e = .returned v ∧ W'.ownsRow w.heap.size 65 3 v (kept [x, y]).length (sgs (kept [x, y])) ∧ (v = .slice none 0 0 ↔ kept [x, y] = []) ∧ Below w.heap.size w W' :=
  (callsIn_wide (n := 3)).1 (listed_in _ 3 trivial trivial rfl (by omega) g x y w hg c0 c1 c2 c3 c4 c5)
end Go.Proofs.Ytmfnhdflmnmooaa.Sx
namespace Go.Proofs.Ytmfnhdflmnmooaa.Sx
open Go.RowKit
set_option linter.unusedVariables false
set_option linter.unusedSimpArgs false
structure Rot where
  on : Bool
  fr : Nat
  to : Nat
  back : Bool
  mode : Int
  hot : Int
  done : Nat
  ao : Int
  az : Int
  act : Bool
  cnt : Int
  sum : ByteArray
abbrev rotC (r : Rot) : Array Value := #[.bool r.on, .int .u64 (r.fr : Nat), .int .u64 (r.to : Nat), .bool r.back, .int .i64 r.mode, .int .u64 r.hot, .int .u64 (r.done : Nat), .int .i64 r.ao, .int .i64 r.az, .bool r.act, .int .u64 r.cnt, .string r.sum]
def segX (n : Nat) (r : Rot) : Sg := if r.back then (0, n - r.done, r.fr) else (0, r.done, r.to)
def segY (n : Nat) (r : Rot) : Sg := if r.back then (n - r.done, r.done, r.to) else (r.done, n - r.done, r.fr)
/-- Two segments in a block. -/
structure Two (w : World) (g : Nat) (x y : Sg) : Prop where
  lt : g < w.heap.size
  c0 : w.cell? ⟨g, 0, none⟩ = some (.int .u64 (x.1 : Nat))
  c1 : w.cell? ⟨g, 1, none⟩ = some (.int .u64 (x.2.1 : Nat))
  c2 : w.cell? ⟨g, 2, none⟩ = some (.int .u64 (x.2.2 : Nat))
  c3 : w.cell? ⟨g, 3, none⟩ = some (.int .u64 (y.1 : Nat))
  c4 : w.cell? ⟨g, 4, none⟩ = some (.int .u64 (y.2.1 : Nat))
  c5 : w.cell? ⟨g, 5, none⟩ = some (.int .u64 (y.2.2 : Nat))
theorem two_new (w : World) (o : Obj) (x y : Sg) : Two ((w.alloc o).alloc (.cells #[.int .u64 (x.1 : Nat), .int .u64 (x.2.1 : Nat), .int .u64 (x.2.2 : Nat), .int .u64 (y.1 : Nat), .int .u64 (y.2.1 : Nat), .int .u64 (y.2.2 : Nat)] 97)) (w.heap.size + 1) x y := by
  have q := rangeNew (w.alloc o) #[.int .u64 (x.1 : Nat), .int .u64 (x.2.1 : Nat), .int .u64 (x.2.2 : Nat), .int .u64 (y.1 : Nat), .int .u64 (y.2.1 : Nat), .int .u64 (y.2.2 : Nat)] 97
  rw [World.size_alloc] at q
  exact ⟨by simp, q 0 _ rfl, q 1 _ rfl, q 2 _ rfl, q 3 _ rfl, q 4 _ rfl, q 5 _ rfl⟩
theorem below_two (w : World) (o p : Obj) : Below w.heap.size w ((w.alloc o).alloc p) := ((Below.refl _ w).alloc (Nat.le_refl _) _).alloc (by simp) _
set_option maxRecDepth 100000 in
set_option maxHeartbeats 4000000 in
theorem segments_ok (n : Nat) (r : Rot) (hn : n ≤ 4294967296) (hd : r.done ≤ n) (w : World) : Calls Try.prog 24 #[.int .u64 (n : Nat), .agg (rotC r)] w fun e w' => ∃ g, e = .returned (.func (.func 53) #[] #[.pointer (some ⟨g, 0, none⟩)]) ∧ Two w' g (segX n r) (segY n r) ∧ Below w.heap.size w w' := by
  obtain ⟨on, fr, to, back, mode, hot, done, ao, az, act, cnt, sum⟩ := r
  have hw : IntKind.u64.wrap ((n : Int) - (done : Nat)) = ((n - done : Nat) : Int) := by
    have hd' : done ≤ n := hd
    rw [IntKind.wrap_u64]
    omega
  obtain ⟨k, hk⟩ : ∃ k : Nat, k = n - done := ⟨_, rfl⟩
  rw [← hk] at hw
  simp only [segX, segY]
  rw [← hk]
  clear hk
  cases back with
  | false =>
    go_enter Try.func24, Try.ntmps24
    go_wp2
    go_ret
    exact ⟨_, rfl, two_new w _ (0, done, to) (done, k, fr), below_two _ _ _⟩
  | true =>
    go_enter Try.func24, Try.ntmps24
    go_wp2
    go_ret
    exact ⟨_, rfl, two_new w _ (0, k, fr) (k, done, to), below_two _ _ _⟩
end Go.Proofs.Ytmfnhdflmnmooaa.Sx
namespace Go.Proofs.Ytmfnhdflmnmooaa
open Go.RowKit Go.Shelf
set_option linter.unusedVariables false
set_option linter.unusedSimpArgs false
attribute [local go_sem] Oper.semAt_some
theorem boxed_own {X Y : World} {row : Option Nat} {B : Nat} {t : TypeId} {v : Value} (h : Boxed X B t v) (hg : X.grownBy Y row) (hrow : ∀ r, row = some r → ∃ o : Obj, X.heap[r]? = some o ∧ o.isCells = false) : Boxed Y B t v := by
  refine h.kept hg (fun e' => ?_)
  obtain ⟨o, ho, hc⟩ := hrow B e'.symm
  rw [show X.heap[B]? = _ from h] at ho; cases ho; cases hc
/-- A segment's three numbers. -/
def cst (x : Sx.Sg) : Int × Int × Int := ((x.1 : Nat), (x.2.1 : Nat), (x.2.2 : Nat))
/-- The items begin with these. -/
def Mpre (n : Nat) (f : Nat → Int × Int × Int) (pre : List Sx.Sg) : Prop := pre.length ≤ n ∧ ∀ i x, pre[i]? = some x → f i = cst x
/-- What is left of the items lies in its box. -/
def Rest (W : World) (B G O n k : Nat) : Prop := ∃ p' c', Boxed W B 29 (.slice p' (n - k) c') ∧ n - k ≤ c' ∧ c' ≤ 9223372036854775807 ∧ (k < n → p' = some ⟨G, O + k * 3, none⟩)
def JustP (n : Nat) (f : Nat → Int × Int × Int) (L : List Sx.Sg) : Prop := L.length = n ∧ ∀ i x, L[i]? = some x → f i = cst x
theorem mpre_nil (n : Nat) (f : Nat → Int × Int × Int) : Mpre n f [] := ⟨Nat.zero_le _, fun i x h => by simp at h⟩
theorem mpre_snoc {n : Nat} {f : Nat → Int × Int × Int} {pre : List Sx.Sg} {x : Sx.Sg} (h : Mpre n f pre) (hl : pre.length < n) (hx : f pre.length = cst x) : Mpre n f (pre ++ [x]) := by
  refine ⟨by simp; omega, fun i y hy => ?_⟩
  by_cases c : i < pre.length
  · rw [List.getElem?_append_left c] at hy
    exact h.2 i y hy
  · rw [List.getElem?_append_right (by omega)] at hy
    have : i - pre.length = 0 := by
      by_cases d : i - pre.length = 0
      · exact d
      · rw [List.getElem?_eq_none (by simp; omega)] at hy; cases hy
    rw [this] at hy
    simp at hy
    subst hy
    rw [show i = pre.length by omega]
    exact hx
theorem mpre_prefix {n : Nat} {f : Nat → Int × Int × Int} {pre L : List Sx.Sg} (h : JustP n f L) (hp : pre <+: L) : Mpre n f pre := by
  obtain ⟨t, rfl⟩ := hp
  refine ⟨by have := h.1; simp at this; omega, fun i x hx => h.2 i x ?_⟩
  have hi : i < pre.length := (List.getElem?_eq_some_iff.1 hx).1
  rw [List.getElem?_append_left hi]
  exact hx
set_option maxRecDepth 100000 in
set_option maxHeartbeats 4000000 in
theorem just_in (F : Fence) (nn : Nat) (h65 : F.fn 65) (h53 : F.fn 53) (hro : F.round = none) (hn3 : 3 ≤ nn) (G O n c : Nat) (p : Option Addr) (f : Nat → Int × Int × Int) (hp : 0 < n → p = some ⟨G, O, none⟩) (hc1 : n ≤ c) (hc2 : c ≤ 9223372036854775807) (g : Nat) (x y : Sx.Sg) (w : World) (hL : LAt w G O n f) (hg : Sx.Two w g x y) :
    CallsIn F nn Try.prog 65 #[.slice p n c, .func (.func 53) #[] #[.pointer (some ⟨g, 0, none⟩)]] w fun e W' => ∃ b : Bool, e = .returned (.bool b) ∧ (b = true ↔ JustP n f (Sx.kept [x, y])) ∧ Below w.heap.size w W' := by
  have h1 : 1 ≤ nn := by omega
  refine callsIn_of_wp_marks Try.func65 rfl h65 ?_ hro
  simp only [Try.ntmps65, List.size_toArray, List.length_cons, List.length_nil, Nat.reduceAdd, Nat.reduceSub, Array.replicate_succ, Array.replicate_zero, List.push_toArray, List.append_toArray, List.nil_append, List.cons_append]
  gi_wp2
  have b0 := (Boxed.new w 29 (.slice p n c)).alloc (.cells #[.bool false] 4)
  have b1 := Boxed.new (w.alloc (.cells #[.slice p n c] 29)) 4 (.bool false)
  rw [World.size_alloc] at b1
  have hB0 : Below w.heap.size w ((w.alloc (.cells #[.slice p n c] 29)).alloc (.cells #[.bool false] 4)) := ((Below.refl _ w).alloc (Nat.le_refl _) _).alloc (by simp) _
  have hg2 := hg.lt
  have k : ∀ (o : Nat) (v : Value), w.cell? ⟨g, o, none⟩ = some v → ((w.alloc (.cells #[.slice p n c] 29)).alloc (.cells #[.bool false] 4)).cell? ⟨g, o, none⟩ = some v := fun o v h => (hB0.cell (p := ⟨g, o, none⟩) hg2).trans h
  refine wpIn_rangeFunc_ownH hro h1 (gf := 53) (lb := #[.pointer (some ⟨g, 0, none⟩)]) rfl h53 (enters_of Try.func53 (by kernel_rfl) rfl)
    (Sx.seg_stops F (nn - 1) h53 hro (by omega) g x y (fun _ _ => True) ((w.alloc (.cells #[.slice p n c] 29)).alloc (.cells #[.bool false] 4)) (by simp; omega) (k _ _ hg.c0) (k _ _ hg.c1) (k _ _ hg.c2) (k _ _ hg.c3) (k _ _ hg.c4) (k _ _ hg.c5)) (fun _ _ => trivial) (fun _ _ _ _ _ _ _ _ => trivial) (Below.refl _ _) (fun _ => rfl)
    (fun pre W => (Rest W w.heap.size G O n pre.length ∧ Mpre n f pre ∧ Boxed W (w.heap.size + 1) 4 (.bool false)) ∧ Below w.heap.size w W)
    (fun cc pre W => (cc = .ret ∧ ¬ Mpre n f pre ∧ Boxed W (w.heap.size + 1) 4 (.bool false)) ∧ Below w.heap.size w W)
    (OwnFrom.and (Own.from (fun s A B row hs hg hr => ⟨by obtain ⟨p', c', hb, hr'⟩ := hs.1; exact ⟨p', c', boxed_own hb hg hr, hr'⟩, hs.2.1, boxed_own hs.2.2 hg hr⟩) _) (ownFrom_below (Nat.le_refl _) (by simp; omega)))
    (fun _ => OwnFrom.and (Own.from (fun s A B row hs hg hr => ⟨hs.1, hs.2.1, boxed_own hs.2.2 hg hr⟩) _) (ownFrom_below (Nat.le_refl _) (by simp; omega)))
    ⟨⟨⟨p, c, by simpa using b0, by simpa using hc1, hc2, by simpa using hp⟩, mpre_nil _ _, b1⟩, hB0⟩
    (fun z a' W => ∃ Bx, w.heap.size + 1 < Bx ∧ Sx.Item W Bx z ∧ a' = { tmps := #[.slice p n c, .func (.func 53) #[] #[.pointer (some ⟨g, 0, none⟩)], .pointer (some ⟨w.heap.size, 0, none⟩), undef, .pointer (some ⟨w.heap.size + 1, 0, none⟩), .pointer (some ⟨Bx, 0, none⟩), .func (.func 53) #[] #[.pointer (some ⟨g, 0, none⟩)], Sx.sgV z, undef, undef, undef, undef, undef, undef, undef, undef, undef, undef, undef, undef, undef, undef, undef], defers := [] })
    (fun x a' _ X Y row hs hg hr => by obtain ⟨Bx, h1, h2, h3⟩ := hs; exact ⟨Bx, h1, h2.own hg (fun r e => (hr r e).2), h3⟩)
    ?assign ?body ?done ?stop
  case assign =>
    rintro l pre z W K ⟨⟨⟨p', c', hb, hr'⟩, hM, hv⟩, hB⟩ hK
    gi_wp2
    exact hK _ _ ((KeepsOthers.alloc _ _).from _) trivial ⟨⟨⟨p', c', hb.alloc _, hr'⟩, hM, hv.alloc _⟩, hB.alloc hB.size _⟩ ⟨W.heap.size, hv.lt, Sx.Item.new W z, rfl⟩
  case body =>
    rintro l pre z a' W hl ⟨r, hr⟩ ⟨⟨⟨p', c', hb, hb1, hb2, hb3⟩, hM, hv⟩, hB⟩ ⟨Bx, hBx, bX, rfl⟩ hlt
    have hc := hb.cell
    have hcv := hv.cell
    have d0 := bX.c0
    have d1 := bX.c1
    have d2 := bX.c2
    by_cases hlen : pre.length < n
    · obtain rfl := hb3 hlen
      have hlB : G < w.heap.size := by
        obtain ⟨q, _, _⟩ := hL pre.length hlen
        exact World.block_lt_of_cell? w _ q
      obtain ⟨q0, q1, q2⟩ := hL pre.length hlen
      have a0 := (hB.cell (p := ⟨G, O + pre.length * 3, none⟩) hlB).trans q0
      have a1 := (hB.cell (p := ⟨G, O + pre.length * 3 + 1, none⟩) hlB).trans q1
      have a2 := (hB.cell (p := ⟨G, O + pre.length * 3 + 2, none⟩) hlB).trans q2
      obtain ⟨m, hm⟩ : ∃ m, n - pre.length = m + 1 := ⟨n - pre.length - 1, by omega⟩
      rw [hm] at hc
      by_cases hx : f pre.length = cst z
      · have HS := mpre_snoc hM hlen hx
        rw [hx] at a0 a1 a2
        have HQ : ∀ u, (Op.equalIn 10000 65 (.agg #[.int .u64 (z.1 : Nat), .int .u64 (z.2.1 : Nat), .int .u64 (z.2.2 : Nat)]) (.agg #[.int .u64 (z.1 : Nat), .int .u64 (z.2.1 : Nat), .int .u64 (z.2.2 : Nat)])).run Try.prog u = .ok true u := fun u => eq51 _ _ _ u
        simp only [cst] at a0 a1 a2
        have hm1 : m + 1 ≤ c' := by omega
        have hcf := hb.frozen
        clear hx q0 q1 q2
        have R0 : Hid (∀ (p2 : Option Addr) (c2 : Nat), m ≤ c2 → c2 ≤ 9223372036854775807 → (pre.length + 1 < n → p2 = some ⟨G, O + (pre.length + 1) * 3, none⟩) → KeepsFrom (w.heap.size + 1 + 1) W ((W.setCell ⟨w.heap.size, 0, none⟩ (.slice p2 m c2)).drew) ∧ True ∧ ((Rest ((W.setCell ⟨w.heap.size, 0, none⟩ (.slice p2 m c2)).drew) w.heap.size G O n (pre ++ [z]).length ∧ Mpre n f (pre ++ [z]) ∧ Boxed ((W.setCell ⟨w.heap.size, 0, none⟩ (.slice p2 m c2)).drew) (w.heap.size + 1) 4 (.bool false)) ∧ Below w.heap.size w ((W.setCell ⟨w.heap.size, 0, none⟩ (.slice p2 m c2)).drew))) := by
          intro p2 c2 k1 k2 k3
          refine ⟨(((KeepsOthers.setCell _ _ _).trans (KeepsOthers.drew _)).from _), trivial, ⟨⟨p2, c2, ?_, ?_, k2, ?_⟩, HS, ?_⟩, ?_⟩
          · rw [List.length_append, List.length_singleton, show n - (pre.length + 1) = m by omega]
            exact hb.set _
          · rw [List.length_append, List.length_singleton]; omega
          · rw [List.length_append, List.length_singleton]; exact k3
          · exact hv.other (by omega) _
          · exact (hB.setCell (p := ⟨w.heap.size, 0, none⟩) (Nat.le_refl _) _).drew
        gi_wp2
        gi_region
        all_goals gi_wp2
        all_goals first
          | exact R0.out _ _ (by omega) (by omega) (fun h => by omega)
          | exact R0.out _ _ (by omega) (by omega) (fun h => by rw [show O + (pre.length + 1) * 3 = O + pre.length * 3 + 3 by omega])
      · have HN : ¬ Mpre n f (pre ++ [z]) := fun q => hx (q.2 pre.length z (by simp))
        have HQ : ∀ u, (Op.equalIn 10000 65 (.agg #[.int .u64 (f pre.length).1, .int .u64 (f pre.length).2.1, .int .u64 (f pre.length).2.2]) (.agg #[.int .u64 (z.1 : Nat), .int .u64 (z.2.1 : Nat), .int .u64 (z.2.2 : Nat)])).run Try.prog u = .ok false u := fun u => by
          rw [eqSeg, decide_eq_false]
          intro q
          exact hx (Prod.ext q.1 (Prod.ext q.2.1 q.2.2))
        have hcf := hv.frozen
        clear hx q0 q1 q2
        gi_wp2
        gi_region
        all_goals gi_wp2
        all_goals exact ⟨(((KeepsOthers.setCell _ _ _).trans (KeepsOthers.drew _)).from _), ⟨rfl, HN, hv.set _⟩, (hB.setCell (p := ⟨w.heap.size + 1, 0, none⟩) (Nat.le_succ _) _).drew⟩
    · have hm : n - pre.length = 0 := by omega
      rw [hm] at hc
      have hcf := hv.frozen
      have HN : ¬ Mpre n f (pre ++ [z]) := fun q => by have := q.1; simp at this; omega
      gi_wp2
      gi_region
      all_goals gi_wp2
      all_goals exact ⟨(((KeepsOthers.setCell _ _ _).trans (KeepsOthers.drew _)).from _), ⟨rfl, HN, hv.set _⟩, (hB.setCell (p := ⟨w.heap.size + 1, 0, none⟩) (Nat.le_succ _) _).drew⟩
  case done =>
    rintro D ys W hD rfl ⟨⟨⟨p', c', hb, hb1, hb2, hb3⟩, hM, hv⟩, hB⟩ hK
    have hc := hb.cell
    have hcv := hv.cell
    have hcf := hv.frozen
    gi_wp2
    generalize hbb : (((n - (Sx.kept [x, y]).length : Nat) : Int) == 0) = bb
    have hK' := (KeepsOthers.setCell W ⟨w.heap.size + 1, 0, none⟩ (.bool bb)).same D _ hK rfl
    have hc5 := cell_kept (hv.set (.bool bb)).cell (grownBy_putObj' _ D (.deferred none)) (fun r e => by cases e; exact ⟨_, hK', rfl⟩)
    refine ⟨by simp, .inl ⟨_, _, rfl, run_takeDeferred hK', ?_⟩⟩
    refine ⟨.bool bb, ?_, bb, rfl, ?_, ?_⟩
    · simp [results, Try.f65, go_sem, hc5]
    · rw [← hbb]
      constructor
      · intro h
        have h0 : n - (Sx.kept [x, y]).length = 0 := by simpa using h
        exact ⟨by have := hM.1; omega, hM.2⟩
      · intro h
        have := h.1
        simp
        omega
    · exact (hB.setCell (p := ⟨w.heap.size + 1, 0, none⟩) (Nat.le_succ _) _).trans (belowK_b (w := w) (Nat.le_refl _) _ D _ _ (by simp at hD; omega) hK' rfl rfl)
  case stop =>
    rintro D cc pre W hD hpre ⟨⟨rfl, hM, hv⟩, hB⟩ hK
    have hcv := hv.cell
    gi_wp2
    have hc5 := cell_kept hv.cell (grownBy_putObj' _ D (.deferred none)) (fun r e => by cases e; exact ⟨_, hK, rfl⟩)
    refine ⟨by simp, .inl ⟨_, _, rfl, run_takeDeferred hK, ?_⟩⟩
    refine ⟨.bool false, ?_, false, rfl, ⟨(fun h => by cases h), fun h => absurd (mpre_prefix h hpre) hM⟩, hB.trans (belowK_b (w := w) (Nat.le_refl _) W D _ _ (by simp at hD; omega) hK rfl rfl)⟩
    simp [results, Try.f65, go_sem, hc5]
theorem just_ok {v : Value} {n : Nat} (p : Option Addr) (c : Nat) (f : Nat → Int × Int × Int) (hc1 : n ≤ c) (hc2 : c ≤ 9223372036854775807) (g : Nat) (x y : Sx.Sg) (w : World) (hL : SegV w (.slice p n c) n f) (hg : Sx.Two w g x y) :
    Calls Try.prog 65 #[.slice p n c, .func (.func 53) #[] #[.pointer (some ⟨g, 0, none⟩)]] w fun e W' => ∃ b : Bool, e = .returned (.bool b) ∧ (b = true ↔ JustP n f (Sx.kept [x, y])) ∧ Below w.heap.size w W' := by
  obtain ⟨p', c', hv, h⟩ := hL
  cases hv
  by_cases hn : 0 < n
  · obtain ⟨G, O, rfl, hl⟩ := h hn
    exact (callsIn_wide (n := 3)).1 (just_in _ 3 trivial trivial rfl (by omega) G O n c _ f (fun _ => rfl) hc1 hc2 g x y w hl hg)
  · obtain rfl : n = 0 := by omega
    exact (callsIn_wide (n := 3)).1 (just_in _ 3 trivial trivial rfl (by omega) 0 0 0 c p f (fun h => absurd h hn) hc1 hc2 g x y w (fun i hi => absurd hi (by omega)) hg)
end Go.Proofs.Ytmfnhdflmnmooaa
