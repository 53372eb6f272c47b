import Derived.Test.YtmfnhdflmnmooaaNxb
import Derived.Test.YtmfnhdflmnmooaaRmb
namespace Go.Proofs.Ytmfnhdflmnmooaa
open Go.RowKit
set_option linter.unusedVariables false
set_option linter.unusedSimpArgs false
/-- May an area be a rotation's? -/
def areaB (U H K ao az mode : Int) (hot : Nat) : Bool := roomG U mode hot && decide ((roomF U mode hot : Int) ≤ az) && decide (ao % 4096 = 0) && decide (az % 4096 = 0) && decide (2 * H ≤ ao) && decide (ao ≤ 2 * H + K - az)
/-- A shape and an area, each in its block. -/
structure AAt (u : World) (s : Nat) (U C H K ao az : Int) : Prop where
  sa : SAt u s U C H K
  a0 : u.cell? ⟨s + 1, 0, none⟩ = some (.int .i64 ao)
  a1 : u.cell? ⟨s + 1, 1, none⟩ = some (.int .i64 az)
theorem AAt.below {u v : World} {s : Nat} {U C H K ao az : Int} (a : AAt u s U C H K ao az) (b : Below u.heap.size u v) : AAt v s U C H K ao az := ⟨a.sa.below b, cell_below b a.a0, cell_below b a.a1⟩
theorem AAt.new (w : World) (U C H K ao az : Int) : AAt ((w.alloc (.cells #[.int .i64 U, .int .u64 C, .int .i64 H, .int .i64 K] 24)).alloc (.cells #[.int .i64 ao, .int .i64 az] 31)) w.heap.size U C H K ao az := by
  have h := SAt.new w U C H K 24
  have q := fun j v => rangeAt_new (w.alloc (.cells #[.int .i64 U, .int .u64 C, .int .i64 H, .int .i64 K] 24)) #[.int .i64 ao, .int .i64 az] 31 j v
  rw [World.size_alloc] at q
  exact ⟨h.below (below_alloc1 _ _), q 0 _ rfl, q 1 _ rfl⟩
theorem AAt.nb (w : World) (o p : Obj) : Below w.heap.size w ((w.alloc o).alloc p) := ((Below.refl _ w).alloc (Nat.le_refl _) _).alloc (by simp) _
theorem AAt.all {u : World} {s : Nat} {U C H K ao az : Int} (a : AAt u s U C H K ao az) : u.cell? ⟨s, 0, none⟩ = some (.int .i64 U) ∧ u.cell? ⟨s, 1, none⟩ = some (.int .u64 C) ∧ u.cell? ⟨s, 2, none⟩ = some (.int .i64 H) ∧ u.cell? ⟨s, 3, none⟩ = some (.int .i64 K) ∧ u.cell? ⟨s + 1, 0, none⟩ = some (.int .i64 ao) ∧ u.cell? ⟨s + 1, 1, none⟩ = some (.int .i64 az) := ⟨a.sa.c0, a.sa.c1, a.sa.c2, a.sa.c3, a.a0, a.a1⟩
theorem tmod_zero (x : Int) : (x.tmod 4096 == 0) = decide (x % 4096 = 0) := by
  have h : x.tmod 4096 = 0 ↔ x % 4096 = 0 := by rw [← Int.dvd_iff_tmod_eq_zero, ← Int.dvd_iff_emod_eq_zero]
  by_cases c : x % 4096 = 0
  · simp [c, h.2 c]
  · have c2 : ¬ x.tmod 4096 = 0 := fun h2 => c (h.1 h2)
    simp [c, c2]
set_option maxHeartbeats 3200000 in
set_option maxRecDepth 100000 in
theorem area_0 (U C H K ao az mode : Int) (hot : Nat) (w : World) (h1 : 0 ≤ H) (h2 : H ≤ 4194304) (k1 : 0 ≤ K) (k2 : K ≤ 134217728) (z2 : az ≤ 9223372036854775807) (hg : roomG U mode hot = false) : Calls Try.prog 19 #[.agg #[.int .i64 U, .int .u64 C, .int .i64 H, .int .i64 K], .agg #[.int .i64 ao, .int .i64 az], .int .i64 mode, .int .u64 (hot : Nat)] w fun e w' => Hid (e = .returned (.bool (false)) ∧ Below w.heap.size w w') := by
  have HR : Hid (∀ v, Calls Try.prog 35 #[.int .i64 U, .int .i64 mode, .int .u64 (hot : Nat)] v fun e w' => e = .returned (.tuple #[.int .i64 (roomF U mode hot : Nat), .int .i64 2]) ∧ w' = v) := fun v => by
    have q := room_ok U mode hot v
    rw [show roomE U mode hot = 2 by simp [roomE, hg]] at q
    exact q
  generalize roomF U mode hot = R at *
  have HA : Hid (AAt ((w.alloc (.cells #[.int .i64 U, .int .u64 C, .int .i64 H, .int .i64 K] 24)).alloc (.cells #[.int .i64 ao, .int .i64 az] 31)) w.heap.size U C H K ao az ∧ Below w.heap.size w ((w.alloc (.cells #[.int .i64 U, .int .u64 C, .int .i64 H, .int .i64 K] 24)).alloc (.cells #[.int .i64 ao, .int .i64 az] 31))) := ⟨AAt.new _ _ _ _ _ _ _, AAt.nb _ _ _⟩
  clear hg
  go_enter Try.func19, Try.ntmps19
  go_upto_region 1 with fail
  generalize ((w.alloc (.cells #[.int .i64 U, .int .u64 C, .int .i64 H, .int .i64 K] 24)).alloc (.cells #[.int .i64 ao, .int .i64 az] 31)) = w0 at HA ⊢
  have c0 := HA.out.1.sa.c0
  go_upto_region 2 with (go_at_call 35; refine (HR.out _).mono ?_; rintro e5 w5 ⟨rfl, hw5⟩; obtain rfl := hw5.symm)
  have c1 := HA.out.1.a0
  have c2 := HA.out.1.a1
  go_quiet (fail)
  have HB : Hid (Below w.heap.size w (w0.drewN nq)) := Below.ofSm HA.out.2 ⟨rfl, rfl, rfl, rfl⟩
  go_wp2
  go_ret
  exact ⟨rfl, HB.out⟩
set_option maxHeartbeats 3200000 in
set_option maxRecDepth 100000 in
theorem area_1 (U C H K ao az mode : Int) (hot : Nat) (w : World) (h1 : 0 ≤ H) (h2 : H ≤ 4194304) (k1 : 0 ≤ K) (k2 : K ≤ 134217728) (z2 : az ≤ 9223372036854775807) (hg : roomG U mode hot = true) (hr : ¬ (roomF U mode hot : Int) ≤ az) : Calls Try.prog 19 #[.agg #[.int .i64 U, .int .u64 C, .int .i64 H, .int .i64 K], .agg #[.int .i64 ao, .int .i64 az], .int .i64 mode, .int .u64 (hot : Nat)] w fun e w' => Hid (e = .returned (.bool (false)) ∧ Below w.heap.size w w') := by
  have HR : Hid (∀ v, Calls Try.prog 35 #[.int .i64 U, .int .i64 mode, .int .u64 (hot : Nat)] v fun e w' => e = .returned (.tuple #[.int .i64 (roomF U mode hot : Nat), .int .i64 0]) ∧ w' = v) := fun v => by
    have q := room_ok U mode hot v
    rw [show roomE U mode hot = 0 by simp [roomE, hg]] at q
    exact q
  generalize roomF U mode hot = R at *
  have qr : decide ((R : Int) ≤ az) = false := by simpa using hr
  have HA : Hid (AAt ((w.alloc (.cells #[.int .i64 U, .int .u64 C, .int .i64 H, .int .i64 K] 24)).alloc (.cells #[.int .i64 ao, .int .i64 az] 31)) w.heap.size U C H K ao az ∧ Below w.heap.size w ((w.alloc (.cells #[.int .i64 U, .int .u64 C, .int .i64 H, .int .i64 K] 24)).alloc (.cells #[.int .i64 ao, .int .i64 az] 31))) := ⟨AAt.new _ _ _ _ _ _ _, AAt.nb _ _ _⟩
  clear hg hr
  go_enter Try.func19, Try.ntmps19
  go_upto_region 1 with fail
  generalize ((w.alloc (.cells #[.int .i64 U, .int .u64 C, .int .i64 H, .int .i64 K] 24)).alloc (.cells #[.int .i64 ao, .int .i64 az] 31)) = w0 at HA ⊢
  have c0 := HA.out.1.sa.c0
  go_upto_region 2 with (go_at_call 35; refine (HR.out _).mono ?_; rintro e5 w5 ⟨rfl, hw5⟩; obtain rfl := hw5.symm)
  have c1 := HA.out.1.a0
  have c2 := HA.out.1.a1
  go_quiet (fail)
  have HB : Hid (Below w.heap.size w (w0.drewN nq)) := Below.ofSm HA.out.2 ⟨rfl, rfl, rfl, rfl⟩
  go_wp2
  go_ret
  exact ⟨rfl, HB.out⟩
set_option maxHeartbeats 3200000 in
set_option maxRecDepth 100000 in
theorem area_2 (U C H K ao az mode : Int) (hot : Nat) (w : World) (h1 : 0 ≤ H) (h2 : H ≤ 4194304) (k1 : 0 ≤ K) (k2 : K ≤ 134217728) (z2 : az ≤ 9223372036854775807) (hg : roomG U mode hot = true) (hr : (roomF U mode hot : Int) ≤ az) (ho : ¬ ao % 4096 = 0) : Calls Try.prog 19 #[.agg #[.int .i64 U, .int .u64 C, .int .i64 H, .int .i64 K], .agg #[.int .i64 ao, .int .i64 az], .int .i64 mode, .int .u64 (hot : Nat)] w fun e w' => Hid (e = .returned (.bool (false)) ∧ Below w.heap.size w w') := by
  have HR : Hid (∀ v, Calls Try.prog 35 #[.int .i64 U, .int .i64 mode, .int .u64 (hot : Nat)] v fun e w' => e = .returned (.tuple #[.int .i64 (roomF U mode hot : Nat), .int .i64 0]) ∧ w' = v) := fun v => by
    have q := room_ok U mode hot v
    rw [show roomE U mode hot = 0 by simp [roomE, hg]] at q
    exact q
  generalize roomF U mode hot = R at *
  have qr : decide ((R : Int) ≤ az) = true := by simpa using hr
  have qo : (ao.tmod 4096 == 0) = false := by rw [tmod_zero]; simpa using ho
  have HA : Hid (AAt ((w.alloc (.cells #[.int .i64 U, .int .u64 C, .int .i64 H, .int .i64 K] 24)).alloc (.cells #[.int .i64 ao, .int .i64 az] 31)) w.heap.size U C H K ao az ∧ Below w.heap.size w ((w.alloc (.cells #[.int .i64 U, .int .u64 C, .int .i64 H, .int .i64 K] 24)).alloc (.cells #[.int .i64 ao, .int .i64 az] 31))) := ⟨AAt.new _ _ _ _ _ _ _, AAt.nb _ _ _⟩
  clear hg hr ho
  go_enter Try.func19, Try.ntmps19
  go_upto_region 1 with fail
  generalize ((w.alloc (.cells #[.int .i64 U, .int .u64 C, .int .i64 H, .int .i64 K] 24)).alloc (.cells #[.int .i64 ao, .int .i64 az] 31)) = w0 at HA ⊢
  have c0 := HA.out.1.sa.c0
  go_upto_region 2 with (go_at_call 35; refine (HR.out _).mono ?_; rintro e5 w5 ⟨rfl, hw5⟩; obtain rfl := hw5.symm)
  have c1 := HA.out.1.a0
  have c2 := HA.out.1.a1
  go_quiet (fail)
  have HB : Hid (Below w.heap.size w (w0.drewN nq)) := Below.ofSm HA.out.2 ⟨rfl, rfl, rfl, rfl⟩
  go_wp2
  go_ret
  exact ⟨rfl, HB.out⟩
set_option maxHeartbeats 3200000 in
set_option maxRecDepth 100000 in
theorem area_3 (U C H K ao az mode : Int) (hot : Nat) (w : World) (h1 : 0 ≤ H) (h2 : H ≤ 4194304) (k1 : 0 ≤ K) (k2 : K ≤ 134217728) (z2 : az ≤ 9223372036854775807) (hg : roomG U mode hot = true) (hr : (roomF U mode hot : Int) ≤ az) (ho : ao % 4096 = 0) (hz : ¬ az % 4096 = 0) : Calls Try.prog 19 #[.agg #[.int .i64 U, .int .u64 C, .int .i64 H, .int .i64 K], .agg #[.int .i64 ao, .int .i64 az], .int .i64 mode, .int .u64 (hot : Nat)] w fun e w' => Hid (e = .returned (.bool (false)) ∧ Below w.heap.size w w') := by
  have HR : Hid (∀ v, Calls Try.prog 35 #[.int .i64 U, .int .i64 mode, .int .u64 (hot : Nat)] v fun e w' => e = .returned (.tuple #[.int .i64 (roomF U mode hot : Nat), .int .i64 0]) ∧ w' = v) := fun v => by
    have q := room_ok U mode hot v
    rw [show roomE U mode hot = 0 by simp [roomE, hg]] at q
    exact q
  generalize roomF U mode hot = R at *
  have qr : decide ((R : Int) ≤ az) = true := by simpa using hr
  have qo : (ao.tmod 4096 == 0) = true := by rw [tmod_zero]; simpa using ho
  have qz : (az.tmod 4096 == 0) = false := by rw [tmod_zero]; simpa using hz
  have HA : Hid (AAt ((w.alloc (.cells #[.int .i64 U, .int .u64 C, .int .i64 H, .int .i64 K] 24)).alloc (.cells #[.int .i64 ao, .int .i64 az] 31)) w.heap.size U C H K ao az ∧ Below w.heap.size w ((w.alloc (.cells #[.int .i64 U, .int .u64 C, .int .i64 H, .int .i64 K] 24)).alloc (.cells #[.int .i64 ao, .int .i64 az] 31))) := ⟨AAt.new _ _ _ _ _ _ _, AAt.nb _ _ _⟩
  clear hg hr ho hz
  go_enter Try.func19, Try.ntmps19
  go_upto_region 1 with fail
  generalize ((w.alloc (.cells #[.int .i64 U, .int .u64 C, .int .i64 H, .int .i64 K] 24)).alloc (.cells #[.int .i64 ao, .int .i64 az] 31)) = w0 at HA ⊢
  have c0 := HA.out.1.sa.c0
  go_upto_region 2 with (go_at_call 35; refine (HR.out _).mono ?_; rintro e5 w5 ⟨rfl, hw5⟩; obtain rfl := hw5.symm)
  have c1 := HA.out.1.a0
  have c2 := HA.out.1.a1
  go_quiet (fail)
  have HB : Hid (Below w.heap.size w (w0.drewN nq)) := Below.ofSm HA.out.2 ⟨rfl, rfl, rfl, rfl⟩
  go_wp2
  go_ret
  exact ⟨rfl, HB.out⟩
set_option maxHeartbeats 3200000 in
set_option maxRecDepth 100000 in
theorem area_4 (U C H K ao az mode : Int) (hot : Nat) (w : World) (h1 : 0 ≤ H) (h2 : H ≤ 4194304) (k1 : 0 ≤ K) (k2 : K ≤ 134217728) (z2 : az ≤ 9223372036854775807) (hg : roomG U mode hot = true) (hr : (roomF U mode hot : Int) ≤ az) (ho : ao % 4096 = 0) (hz : az % 4096 = 0) (hh : ¬ 2 * H ≤ ao) : Calls Try.prog 19 #[.agg #[.int .i64 U, .int .u64 C, .int .i64 H, .int .i64 K], .agg #[.int .i64 ao, .int .i64 az], .int .i64 mode, .int .u64 (hot : Nat)] w fun e w' => Hid (e = .returned (.bool (false)) ∧ Below w.heap.size w w') := by
  have HR : Hid (∀ v, Calls Try.prog 35 #[.int .i64 U, .int .i64 mode, .int .u64 (hot : Nat)] v fun e w' => e = .returned (.tuple #[.int .i64 (roomF U mode hot : Nat), .int .i64 0]) ∧ w' = v) := fun v => by
    have q := room_ok U mode hot v
    rw [show roomE U mode hot = 0 by simp [roomE, hg]] at q
    exact q
  generalize roomF U mode hot = R at *
  have qr : decide ((R : Int) ≤ az) = true := by simpa using hr
  have qo : (ao.tmod 4096 == 0) = true := by rw [tmod_zero]; simpa using ho
  have qz : (az.tmod 4096 == 0) = true := by rw [tmod_zero]; simpa using hz
  have qh : decide (2 * H ≤ ao) = false := by simpa using hh
  have HA : Hid (AAt ((w.alloc (.cells #[.int .i64 U, .int .u64 C, .int .i64 H, .int .i64 K] 24)).alloc (.cells #[.int .i64 ao, .int .i64 az] 31)) w.heap.size U C H K ao az ∧ Below w.heap.size w ((w.alloc (.cells #[.int .i64 U, .int .u64 C, .int .i64 H, .int .i64 K] 24)).alloc (.cells #[.int .i64 ao, .int .i64 az] 31))) := ⟨AAt.new _ _ _ _ _ _ _, AAt.nb _ _ _⟩
  clear hg ho hz hh
  go_enter Try.func19, Try.ntmps19
  go_upto_region 1 with fail
  generalize ((w.alloc (.cells #[.int .i64 U, .int .u64 C, .int .i64 H, .int .i64 K] 24)).alloc (.cells #[.int .i64 ao, .int .i64 az] 31)) = w0 at HA ⊢
  have c0 := HA.out.1.sa.c0
  go_upto_region 2 with (go_at_call 35; refine (HR.out _).mono ?_; rintro e5 w5 ⟨rfl, hw5⟩; obtain rfl := hw5.symm)
  have HK : Hid (∀ u, Calls Try.prog 44 #[.agg #[.int .i64 U, .int .u64 C, .int .i64 H, .int .i64 K]] u fun e w' => Hid (e = .returned (.int .i64 (2 * H)) ∧ Below u.heap.size u w')) := fun u => keys_ok U C H K u h1 h2
  clear c0
  have hS0 : Below w0.heap.size w0 w0.drew := (Below.refl _ _).drew
  have hrg : ∀ u, Below w0.heap.size w0 u → u.rangeAt w.heap.size 0 [.int .i64 U, .int .u64 C, .int .i64 H, .int .i64 K] := fun u hu j v hj => by
    have q := (HA.out.1.below hu).sa
    match j, hj with
    | 0, hj => simp at hj; subst hj; exact q.c0
    | 1, hj => simp at hj; subst hj; exact q.c1
    | 2, hj => simp at hj; subst hj; exact q.c2
    | 3, hj => simp at hj; subst hj; exact q.c3
  have hao : ∀ u, Below w0.heap.size w0 u → u.cell? ⟨w.heap.size + 1, 0, none⟩ = some (.int .i64 ao) := fun u hu => (HA.out.1.below hu).a0
  have haz : ∀ u, Below w0.heap.size w0 u → u.cell? ⟨w.heap.size + 1, 1, none⟩ = some (.int .i64 az) := fun u hu => (HA.out.1.below hu).a1
  refine wp_region_noPanic ?_
  refine wp_region_held_drew (S := fun u => Below w0.heap.size w0 u) (by kernel_rfl) (hS0) (fun _ => ?_)
  refine takeH_at 0 19 (.int .i64 0) rfl rfl (by kernel_rfl) (by kernel_rfl) (by kernel_rfl) (fun _ _ _ h => h) (hS0) (Or.inl ⟨by kernel_rfl, fun w' hS' => by go_simp⟩) ?_
  simp only [List.setIfInBounds_toArray, List.set_cons_zero, List.set_cons_succ]
  refine takeH_at 1 20 (.bool true) rfl rfl (by kernel_rfl) (by kernel_rfl) (by kernel_rfl) (fun _ _ _ h => h) (hS0) (Or.inl ⟨by kernel_rfl, fun w' hS' => by go_simp⟩) ?_
  simp only [List.setIfInBounds_toArray, List.set_cons_zero, List.set_cons_succ]
  refine takeH_at 2 21 (.bool true) rfl rfl (by kernel_rfl) (by kernel_rfl) (by kernel_rfl) (fun _ _ _ h => h) (hS0) (Or.inl ⟨by kernel_rfl, fun w' hS' => by go_simp⟩) ?_
  simp only [List.setIfInBounds_toArray, List.set_cons_zero, List.set_cons_succ]
  refine takeH_at 3 22 (.pointer (some ⟨w.heap.size + 1, 1, none⟩)) rfl rfl (by kernel_rfl) (by kernel_rfl) (by kernel_rfl) (fun _ _ _ h => h) (hS0) (Or.inl ⟨by kernel_rfl, fun w' hS' => by go_simp⟩) ?_
  simp only [List.setIfInBounds_toArray, List.set_cons_zero, List.set_cons_succ]
  refine takeH_at 4 23 (.int .i64 az) rfl rfl (by kernel_rfl) (by kernel_rfl) (by kernel_rfl) (fun _ _ _ h => h) (hS0) (Or.inl ⟨by kernel_rfl, fun w' hS' => by have q := haz w' hS'; go_simp⟩) ?_
  simp only [List.setIfInBounds_toArray, List.set_cons_zero, List.set_cons_succ]
  refine takeH_at 5 24 (.int .i64 (R : Nat)) rfl rfl (by kernel_rfl) (by kernel_rfl) (by kernel_rfl) (fun _ _ _ h => h) (hS0) (Or.inl ⟨by kernel_rfl, fun w' hS' => by go_simp⟩) ?_
  simp only [List.setIfInBounds_toArray, List.set_cons_zero, List.set_cons_succ]
  refine takeH_at 6 25 (.bool true) rfl rfl (by kernel_rfl) (by kernel_rfl) (by kernel_rfl) (fun _ _ _ h => h) (hS0) (Or.inl ⟨by kernel_rfl, fun w' hS' => by go_simp⟩) ?_
  simp only [List.setIfInBounds_toArray, List.set_cons_zero, List.set_cons_succ]
  refine takeH_at 7 26 (.bool true) rfl rfl (by kernel_rfl) (by kernel_rfl) (by kernel_rfl) (fun _ _ _ h => h) (hS0) (Or.inl ⟨by kernel_rfl, fun w' hS' => by go_simp⟩) ?_
  simp only [List.setIfInBounds_toArray, List.set_cons_zero, List.set_cons_succ]
  refine takeH_at 8 27 (.bool true) rfl rfl (by kernel_rfl) (by kernel_rfl) (by kernel_rfl) (fun _ _ _ h => h) (hS0) (Or.inl ⟨by kernel_rfl, fun w' hS' => by go_simp⟩) ?_
  simp only [List.setIfInBounds_toArray, List.set_cons_zero, List.set_cons_succ]
  refine takeH_at 9 28 (.pointer (some ⟨w.heap.size + 1, 0, none⟩)) rfl rfl (by kernel_rfl) (by kernel_rfl) (by kernel_rfl) (fun _ _ _ h => h) (hS0) (Or.inl ⟨by kernel_rfl, fun w' hS' => by go_simp⟩) ?_
  simp only [List.setIfInBounds_toArray, List.set_cons_zero, List.set_cons_succ]
  refine takeH_at 10 29 (.int .i64 ao) rfl rfl (by kernel_rfl) (by kernel_rfl) (by kernel_rfl) (fun _ _ _ h => h) (hS0) (Or.inl ⟨by kernel_rfl, fun w' hS' => by have q := hao w' hS'; go_simp⟩) ?_
  simp only [List.setIfInBounds_toArray, List.set_cons_zero, List.set_cons_succ]
  refine takeH_at 11 30 (.int .i64 (ao.tmod 4096)) rfl rfl (by kernel_rfl) (by kernel_rfl) (by kernel_rfl) (fun _ _ _ h => h) (hS0) (Or.inl ⟨by kernel_rfl, fun w' hS' => by go_simp⟩) ?_
  simp only [List.setIfInBounds_toArray, List.set_cons_zero, List.set_cons_succ]
  refine takeH_at 12 31 (.bool true) rfl rfl (by kernel_rfl) (by kernel_rfl) (by kernel_rfl) (fun _ _ _ h => h) (hS0) (Or.inl ⟨by kernel_rfl, fun w' hS' => by go_simp⟩) ?_
  simp only [List.setIfInBounds_toArray, List.set_cons_zero, List.set_cons_succ]
  refine takeH_at 13 32 (.bool true) rfl rfl (by kernel_rfl) (by kernel_rfl) (by kernel_rfl) (fun _ _ _ h => h) (hS0) (Or.inl ⟨by kernel_rfl, fun w' hS' => by go_simp⟩) ?_
  simp only [List.setIfInBounds_toArray, List.set_cons_zero, List.set_cons_succ]
  refine takeH_at 14 33 (.bool true) rfl rfl (by kernel_rfl) (by kernel_rfl) (by kernel_rfl) (fun _ _ _ h => h) (hS0) (Or.inl ⟨by kernel_rfl, fun w' hS' => by go_simp⟩) ?_
  simp only [List.setIfInBounds_toArray, List.set_cons_zero, List.set_cons_succ]
  refine takeH_at 15 34 (.pointer (some ⟨w.heap.size + 1, 1, none⟩)) rfl rfl (by kernel_rfl) (by kernel_rfl) (by kernel_rfl) (fun _ _ _ h => h) (hS0) (Or.inl ⟨by kernel_rfl, fun w' hS' => by go_simp⟩) ?_
  simp only [List.setIfInBounds_toArray, List.set_cons_zero, List.set_cons_succ]
  refine takeH_at 16 35 (.int .i64 az) rfl rfl (by kernel_rfl) (by kernel_rfl) (by kernel_rfl) (fun _ _ _ h => h) (hS0) (Or.inl ⟨by kernel_rfl, fun w' hS' => by have q := haz w' hS'; go_simp⟩) ?_
  simp only [List.setIfInBounds_toArray, List.set_cons_zero, List.set_cons_succ]
  refine takeH_at 17 36 (.int .i64 (az.tmod 4096)) rfl rfl (by kernel_rfl) (by kernel_rfl) (by kernel_rfl) (fun _ _ _ h => h) (hS0) (Or.inl ⟨by kernel_rfl, fun w' hS' => by go_simp⟩) ?_
  simp only [List.setIfInBounds_toArray, List.set_cons_zero, List.set_cons_succ]
  refine takeH_at 18 37 (.bool true) rfl rfl (by kernel_rfl) (by kernel_rfl) (by kernel_rfl) (fun _ _ _ h => h) (hS0) (Or.inl ⟨by kernel_rfl, fun w' hS' => by go_simp⟩) ?_
  simp only [List.setIfInBounds_toArray, List.set_cons_zero, List.set_cons_succ]
  refine takeH_at 19 38 (.bool true) rfl rfl (by kernel_rfl) (by kernel_rfl) (by kernel_rfl) (fun _ _ _ h => h) (hS0) (Or.inl ⟨by kernel_rfl, fun w' hS' => by go_simp⟩) ?_
  simp only [List.setIfInBounds_toArray, List.set_cons_zero, List.set_cons_succ]
  refine takeH_at 20 39 (.bool true) rfl rfl (by kernel_rfl) (by kernel_rfl) (by kernel_rfl) (fun _ _ _ h => h) (hS0) (Or.inl ⟨by kernel_rfl, fun w' hS' => by go_simp⟩) ?_
  simp only [List.setIfInBounds_toArray, List.set_cons_zero, List.set_cons_succ]
  refine takeH_at 21 40 (.pointer (some ⟨w.heap.size + 1, 0, none⟩)) rfl rfl (by kernel_rfl) (by kernel_rfl) (by kernel_rfl) (fun _ _ _ h => h) (hS0) (Or.inl ⟨by kernel_rfl, fun w' hS' => by go_simp⟩) ?_
  simp only [List.setIfInBounds_toArray, List.set_cons_zero, List.set_cons_succ]
  refine takeH_at 22 41 (.int .i64 ao) rfl rfl (by kernel_rfl) (by kernel_rfl) (by kernel_rfl) (fun _ _ _ h => h) (hS0) (Or.inl ⟨by kernel_rfl, fun w' hS' => by have q := hao w' hS'; go_simp⟩) ?_
  simp only [List.setIfInBounds_toArray, List.set_cons_zero, List.set_cons_succ]
  refine takeH_at 23 42 (.agg #[.int .i64 U, .int .u64 C, .int .i64 H, .int .i64 K]) rfl rfl (by kernel_rfl) (by kernel_rfl) (by kernel_rfl) (fun _ _ _ h => h) (hS0) (yieldsIf_load_mid (by kernel_rfl) 24 (.tmp 4) rfl w.heap.size 0 rfl [.int .i64 U, .int .u64 C, .int .i64 H, .int .i64 K] _ hrg Try.underlying24 rfl (by kernel_rfl)) ?_
  simp only [List.setIfInBounds_toArray, List.set_cons_zero, List.set_cons_succ]
  refine wpAnyH_ready (rs := [24]) (by kernel_rfl) (by simp) ?_
  refine AllReadyH.cons rfl (fun Kx hK => ?_) AllReadyH.nil
  rw [if_pos (by kernel_rfl)]
  go_simp
  refine (HK.out _).mono ?_
  intro e1 q1 hh
  obtain ⟨he, hq1⟩ := hh.out
  subst he
  have hS1 : Below w0.heap.size w0 q1 := (hS0).trans (hq1.mono (hS0).size)
  clear hh
  go_wp2_with fail
  refine hK.out _ _ hS1 (fun _ => ?_)
  clear hK Kx
  try simp only [Act.put, List.setIfInBounds_toArray, List.set_cons_zero, List.set_cons_succ]
  refine takeH_at 25 44 (.bool false) rfl rfl (by kernel_rfl) (by kernel_rfl) (by kernel_rfl) (fun _ _ _ h => h) (hS1) (Or.inl ⟨by kernel_rfl, fun w' hS' => by go_simp⟩) ?_
  simp only [List.setIfInBounds_toArray, List.set_cons_zero, List.set_cons_succ]
  refine takeH_at 26 45 (.bool false) rfl rfl (by kernel_rfl) (by kernel_rfl) (by kernel_rfl) (fun _ _ _ h => h) (hS1) (Or.inl ⟨by kernel_rfl, fun w' hS' => by go_simp⟩) ?_
  simp only [List.setIfInBounds_toArray, List.set_cons_zero, List.set_cons_succ]
  refine takeH_at 27 46 (.bool false) rfl rfl (by kernel_rfl) (by kernel_rfl) (by kernel_rfl) (fun _ _ _ h => h) (hS1) (Or.inl ⟨by kernel_rfl, fun w' hS' => by go_simp⟩) ?_
  simp only [List.setIfInBounds_toArray, List.set_cons_zero, List.set_cons_succ]
  refine takeH_at 28 47 undef rfl rfl (by kernel_rfl) (by kernel_rfl) (by kernel_rfl) (fun _ _ _ h => h) (hS1) (Or.inr ⟨by kernel_rfl, rfl⟩) ?_
  simp only [List.setIfInBounds_toArray, List.set_cons_zero, List.set_cons_succ]
  refine takeH_at 29 48 undef rfl rfl (by kernel_rfl) (by kernel_rfl) (by kernel_rfl) (fun _ _ _ h => h) (hS1) (Or.inr ⟨by kernel_rfl, rfl⟩) ?_
  simp only [List.setIfInBounds_toArray, List.set_cons_zero, List.set_cons_succ]
  refine takeH_at 30 49 undef rfl rfl (by kernel_rfl) (by kernel_rfl) (by kernel_rfl) (fun _ _ _ h => h) (hS1) (Or.inr ⟨by kernel_rfl, rfl⟩) ?_
  simp only [List.setIfInBounds_toArray, List.set_cons_zero, List.set_cons_succ]
  refine takeH_at 31 50 undef rfl rfl (by kernel_rfl) (by kernel_rfl) (by kernel_rfl) (fun _ _ _ h => h) (hS1) (Or.inr ⟨by kernel_rfl, rfl⟩) ?_
  simp only [List.setIfInBounds_toArray, List.set_cons_zero, List.set_cons_succ]
  refine takeH_at 32 51 undef rfl rfl (by kernel_rfl) (by kernel_rfl) (by kernel_rfl) (fun _ _ _ h => h) (hS1) (Or.inr ⟨by kernel_rfl, rfl⟩) ?_
  simp only [List.setIfInBounds_toArray, List.set_cons_zero, List.set_cons_succ]
  refine takeH_at 33 52 undef rfl rfl (by kernel_rfl) (by kernel_rfl) (by kernel_rfl) (fun _ _ _ h => h) (hS1) (Or.inr ⟨by kernel_rfl, rfl⟩) ?_
  simp only [List.setIfInBounds_toArray, List.set_cons_zero, List.set_cons_succ]
  refine takeH_at 34 53 undef rfl rfl (by kernel_rfl) (by kernel_rfl) (by kernel_rfl) (fun _ _ _ h => h) (hS1) (Or.inr ⟨by kernel_rfl, rfl⟩) ?_
  simp only [List.setIfInBounds_toArray, List.set_cons_zero, List.set_cons_succ]
  refine takeH_at 35 54 undef rfl rfl (by kernel_rfl) (by kernel_rfl) (by kernel_rfl) (fun _ _ _ h => h) (hS1) (Or.inr ⟨by kernel_rfl, rfl⟩) ?_
  simp only [List.setIfInBounds_toArray, List.set_cons_zero, List.set_cons_succ]
  refine takeH_at 36 55 (.bool false) rfl rfl (by kernel_rfl) (by kernel_rfl) (by kernel_rfl) (fun _ _ _ h => h) (hS1) (Or.inl ⟨by kernel_rfl, fun w' hS' => by go_simp⟩) ?_
  simp only [List.setIfInBounds_toArray, List.set_cons_zero, List.set_cons_succ]
  refine takeH_at 37 8 (.bool false) rfl rfl (by kernel_rfl) (by kernel_rfl) (by kernel_rfl) (fun _ _ _ h => h) (hS1) (Or.inl ⟨by kernel_rfl, fun w' hS' => by go_simp⟩) ?_
  simp only [List.setIfInBounds_toArray, List.set_cons_zero, List.set_cons_succ]
  refine wpAnyH_done (by kernel_rfl) ?_ _
  refine NoPanic.normal ?_
  go_wp2_with fail
  go_ret
  exact ⟨rfl, HA.out.2.trans (hS1.mono HA.out.2.size)⟩
set_option maxHeartbeats 3200000 in
set_option maxRecDepth 100000 in
theorem area_5 (U C H K ao az mode : Int) (hot : Nat) (w : World) (h1 : 0 ≤ H) (h2 : H ≤ 4194304) (k1 : 0 ≤ K) (k2 : K ≤ 134217728) (z2 : az ≤ 9223372036854775807) (hg : roomG U mode hot = true) (hr : (roomF U mode hot : Int) ≤ az) (ho : ao % 4096 = 0) (hz : az % 4096 = 0) (hh : 2 * H ≤ ao) : Calls Try.prog 19 #[.agg #[.int .i64 U, .int .u64 C, .int .i64 H, .int .i64 K], .agg #[.int .i64 ao, .int .i64 az], .int .i64 mode, .int .u64 (hot : Nat)] w fun e w' => Hid (e = .returned (.bool (decide (ao ≤ 2 * H + K - az))) ∧ Below w.heap.size w w') := by
  have HR : Hid (∀ v, Calls Try.prog 35 #[.int .i64 U, .int .i64 mode, .int .u64 (hot : Nat)] v fun e w' => e = .returned (.tuple #[.int .i64 (roomF U mode hot : Nat), .int .i64 0]) ∧ w' = v) := fun v => by
    have q := room_ok U mode hot v
    rw [show roomE U mode hot = 0 by simp [roomE, hg]] at q
    exact q
  generalize roomF U mode hot = R at *
  have qr : decide ((R : Int) ≤ az) = true := by simpa using hr
  have qo : (ao.tmod 4096 == 0) = true := by rw [tmod_zero]; simpa using ho
  have qz : (az.tmod 4096 == 0) = true := by rw [tmod_zero]; simpa using hz
  have qh : decide (2 * H ≤ ao) = true := by simpa using hh
  have HA : Hid (AAt ((w.alloc (.cells #[.int .i64 U, .int .u64 C, .int .i64 H, .int .i64 K] 24)).alloc (.cells #[.int .i64 ao, .int .i64 az] 31)) w.heap.size U C H K ao az ∧ Below w.heap.size w ((w.alloc (.cells #[.int .i64 U, .int .u64 C, .int .i64 H, .int .i64 K] 24)).alloc (.cells #[.int .i64 ao, .int .i64 az] 31))) := ⟨AAt.new _ _ _ _ _ _ _, AAt.nb _ _ _⟩
  have ew : IntKind.i64.wrap (2 * H + K - az) = 2 * H + K - az := by rw [IntKind.wrap_i64]; omega
  clear hg ho hz
  go_enter Try.func19, Try.ntmps19
  go_upto_region 1 with fail
  generalize ((w.alloc (.cells #[.int .i64 U, .int .u64 C, .int .i64 H, .int .i64 K] 24)).alloc (.cells #[.int .i64 ao, .int .i64 az] 31)) = w0 at HA ⊢
  have c0 := HA.out.1.sa.c0
  go_upto_region 2 with (go_at_call 35; refine (HR.out _).mono ?_; rintro e5 w5 ⟨rfl, hw5⟩; obtain rfl := hw5.symm)
  have HK : Hid (∀ u, Calls Try.prog 44 #[.agg #[.int .i64 U, .int .u64 C, .int .i64 H, .int .i64 K]] u fun e w' => Hid (e = .returned (.int .i64 (2 * H)) ∧ Below u.heap.size u w')) := fun u => keys_ok U C H K u h1 h2
  have HD : Hid (∀ u, Calls Try.prog 43 #[.agg #[.int .i64 U, .int .u64 C, .int .i64 H, .int .i64 K]] u fun e w' => Hid (e = .returned (.int .i64 (2 * H + K)) ∧ Below u.heap.size u w')) := fun u => data_ok U C H K u h1 h2 k1 k2
  clear c0
  have hS0 : Below w0.heap.size w0 w0.drew := (Below.refl _ _).drew
  have hrg : ∀ u, Below w0.heap.size w0 u → u.rangeAt w.heap.size 0 [.int .i64 U, .int .u64 C, .int .i64 H, .int .i64 K] := fun u hu j v hj => by
    have q := (HA.out.1.below hu).sa
    match j, hj with
    | 0, hj => simp at hj; subst hj; exact q.c0
    | 1, hj => simp at hj; subst hj; exact q.c1
    | 2, hj => simp at hj; subst hj; exact q.c2
    | 3, hj => simp at hj; subst hj; exact q.c3
  have hao : ∀ u, Below w0.heap.size w0 u → u.cell? ⟨w.heap.size + 1, 0, none⟩ = some (.int .i64 ao) := fun u hu => (HA.out.1.below hu).a0
  have haz : ∀ u, Below w0.heap.size w0 u → u.cell? ⟨w.heap.size + 1, 1, none⟩ = some (.int .i64 az) := fun u hu => (HA.out.1.below hu).a1
  refine wp_region_noPanic ?_
  refine wp_region_held_drew (S := fun u => Below w0.heap.size w0 u) (by kernel_rfl) (hS0) (fun _ => ?_)
  refine takeH_at 0 19 (.int .i64 0) rfl rfl (by kernel_rfl) (by kernel_rfl) (by kernel_rfl) (fun _ _ _ h => h) (hS0) (Or.inl ⟨by kernel_rfl, fun w' hS' => by go_simp⟩) ?_
  simp only [List.setIfInBounds_toArray, List.set_cons_zero, List.set_cons_succ]
  refine takeH_at 1 20 (.bool true) rfl rfl (by kernel_rfl) (by kernel_rfl) (by kernel_rfl) (fun _ _ _ h => h) (hS0) (Or.inl ⟨by kernel_rfl, fun w' hS' => by go_simp⟩) ?_
  simp only [List.setIfInBounds_toArray, List.set_cons_zero, List.set_cons_succ]
  refine takeH_at 2 21 (.bool true) rfl rfl (by kernel_rfl) (by kernel_rfl) (by kernel_rfl) (fun _ _ _ h => h) (hS0) (Or.inl ⟨by kernel_rfl, fun w' hS' => by go_simp⟩) ?_
  simp only [List.setIfInBounds_toArray, List.set_cons_zero, List.set_cons_succ]
  refine takeH_at 3 22 (.pointer (some ⟨w.heap.size + 1, 1, none⟩)) rfl rfl (by kernel_rfl) (by kernel_rfl) (by kernel_rfl) (fun _ _ _ h => h) (hS0) (Or.inl ⟨by kernel_rfl, fun w' hS' => by go_simp⟩) ?_
  simp only [List.setIfInBounds_toArray, List.set_cons_zero, List.set_cons_succ]
  refine takeH_at 4 23 (.int .i64 az) rfl rfl (by kernel_rfl) (by kernel_rfl) (by kernel_rfl) (fun _ _ _ h => h) (hS0) (Or.inl ⟨by kernel_rfl, fun w' hS' => by have q := haz w' hS'; go_simp⟩) ?_
  simp only [List.setIfInBounds_toArray, List.set_cons_zero, List.set_cons_succ]
  refine takeH_at 5 24 (.int .i64 (R : Nat)) rfl rfl (by kernel_rfl) (by kernel_rfl) (by kernel_rfl) (fun _ _ _ h => h) (hS0) (Or.inl ⟨by kernel_rfl, fun w' hS' => by go_simp⟩) ?_
  simp only [List.setIfInBounds_toArray, List.set_cons_zero, List.set_cons_succ]
  refine takeH_at 6 25 (.bool true) rfl rfl (by kernel_rfl) (by kernel_rfl) (by kernel_rfl) (fun _ _ _ h => h) (hS0) (Or.inl ⟨by kernel_rfl, fun w' hS' => by go_simp⟩) ?_
  simp only [List.setIfInBounds_toArray, List.set_cons_zero, List.set_cons_succ]
  refine takeH_at 7 26 (.bool true) rfl rfl (by kernel_rfl) (by kernel_rfl) (by kernel_rfl) (fun _ _ _ h => h) (hS0) (Or.inl ⟨by kernel_rfl, fun w' hS' => by go_simp⟩) ?_
  simp only [List.setIfInBounds_toArray, List.set_cons_zero, List.set_cons_succ]
  refine takeH_at 8 27 (.bool true) rfl rfl (by kernel_rfl) (by kernel_rfl) (by kernel_rfl) (fun _ _ _ h => h) (hS0) (Or.inl ⟨by kernel_rfl, fun w' hS' => by go_simp⟩) ?_
  simp only [List.setIfInBounds_toArray, List.set_cons_zero, List.set_cons_succ]
  refine takeH_at 9 28 (.pointer (some ⟨w.heap.size + 1, 0, none⟩)) rfl rfl (by kernel_rfl) (by kernel_rfl) (by kernel_rfl) (fun _ _ _ h => h) (hS0) (Or.inl ⟨by kernel_rfl, fun w' hS' => by go_simp⟩) ?_
  simp only [List.setIfInBounds_toArray, List.set_cons_zero, List.set_cons_succ]
  refine takeH_at 10 29 (.int .i64 ao) rfl rfl (by kernel_rfl) (by kernel_rfl) (by kernel_rfl) (fun _ _ _ h => h) (hS0) (Or.inl ⟨by kernel_rfl, fun w' hS' => by have q := hao w' hS'; go_simp⟩) ?_
  simp only [List.setIfInBounds_toArray, List.set_cons_zero, List.set_cons_succ]
  refine takeH_at 11 30 (.int .i64 (ao.tmod 4096)) rfl rfl (by kernel_rfl) (by kernel_rfl) (by kernel_rfl) (fun _ _ _ h => h) (hS0) (Or.inl ⟨by kernel_rfl, fun w' hS' => by go_simp⟩) ?_
  simp only [List.setIfInBounds_toArray, List.set_cons_zero, List.set_cons_succ]
  refine takeH_at 12 31 (.bool true) rfl rfl (by kernel_rfl) (by kernel_rfl) (by kernel_rfl) (fun _ _ _ h => h) (hS0) (Or.inl ⟨by kernel_rfl, fun w' hS' => by go_simp⟩) ?_
  simp only [List.setIfInBounds_toArray, List.set_cons_zero, List.set_cons_succ]
  refine takeH_at 13 32 (.bool true) rfl rfl (by kernel_rfl) (by kernel_rfl) (by kernel_rfl) (fun _ _ _ h => h) (hS0) (Or.inl ⟨by kernel_rfl, fun w' hS' => by go_simp⟩) ?_
  simp only [List.setIfInBounds_toArray, List.set_cons_zero, List.set_cons_succ]
  refine takeH_at 14 33 (.bool true) rfl rfl (by kernel_rfl) (by kernel_rfl) (by kernel_rfl) (fun _ _ _ h => h) (hS0) (Or.inl ⟨by kernel_rfl, fun w' hS' => by go_simp⟩) ?_
  simp only [List.setIfInBounds_toArray, List.set_cons_zero, List.set_cons_succ]
  refine takeH_at 15 34 (.pointer (some ⟨w.heap.size + 1, 1, none⟩)) rfl rfl (by kernel_rfl) (by kernel_rfl) (by kernel_rfl) (fun _ _ _ h => h) (hS0) (Or.inl ⟨by kernel_rfl, fun w' hS' => by go_simp⟩) ?_
  simp only [List.setIfInBounds_toArray, List.set_cons_zero, List.set_cons_succ]
  refine takeH_at 16 35 (.int .i64 az) rfl rfl (by kernel_rfl) (by kernel_rfl) (by kernel_rfl) (fun _ _ _ h => h) (hS0) (Or.inl ⟨by kernel_rfl, fun w' hS' => by have q := haz w' hS'; go_simp⟩) ?_
  simp only [List.setIfInBounds_toArray, List.set_cons_zero, List.set_cons_succ]
  refine takeH_at 17 36 (.int .i64 (az.tmod 4096)) rfl rfl (by kernel_rfl) (by kernel_rfl) (by kernel_rfl) (fun _ _ _ h => h) (hS0) (Or.inl ⟨by kernel_rfl, fun w' hS' => by go_simp⟩) ?_
  simp only [List.setIfInBounds_toArray, List.set_cons_zero, List.set_cons_succ]
  refine takeH_at 18 37 (.bool true) rfl rfl (by kernel_rfl) (by kernel_rfl) (by kernel_rfl) (fun _ _ _ h => h) (hS0) (Or.inl ⟨by kernel_rfl, fun w' hS' => by go_simp⟩) ?_
  simp only [List.setIfInBounds_toArray, List.set_cons_zero, List.set_cons_succ]
  refine takeH_at 19 38 (.bool true) rfl rfl (by kernel_rfl) (by kernel_rfl) (by kernel_rfl) (fun _ _ _ h => h) (hS0) (Or.inl ⟨by kernel_rfl, fun w' hS' => by go_simp⟩) ?_
  simp only [List.setIfInBounds_toArray, List.set_cons_zero, List.set_cons_succ]
  refine takeH_at 20 39 (.bool true) rfl rfl (by kernel_rfl) (by kernel_rfl) (by kernel_rfl) (fun _ _ _ h => h) (hS0) (Or.inl ⟨by kernel_rfl, fun w' hS' => by go_simp⟩) ?_
  simp only [List.setIfInBounds_toArray, List.set_cons_zero, List.set_cons_succ]
  refine takeH_at 21 40 (.pointer (some ⟨w.heap.size + 1, 0, none⟩)) rfl rfl (by kernel_rfl) (by kernel_rfl) (by kernel_rfl) (fun _ _ _ h => h) (hS0) (Or.inl ⟨by kernel_rfl, fun w' hS' => by go_simp⟩) ?_
  simp only [List.setIfInBounds_toArray, List.set_cons_zero, List.set_cons_succ]
  refine takeH_at 22 41 (.int .i64 ao) rfl rfl (by kernel_rfl) (by kernel_rfl) (by kernel_rfl) (fun _ _ _ h => h) (hS0) (Or.inl ⟨by kernel_rfl, fun w' hS' => by have q := hao w' hS'; go_simp⟩) ?_
  simp only [List.setIfInBounds_toArray, List.set_cons_zero, List.set_cons_succ]
  refine takeH_at 23 42 (.agg #[.int .i64 U, .int .u64 C, .int .i64 H, .int .i64 K]) rfl rfl (by kernel_rfl) (by kernel_rfl) (by kernel_rfl) (fun _ _ _ h => h) (hS0) (yieldsIf_load_mid (by kernel_rfl) 24 (.tmp 4) rfl w.heap.size 0 rfl [.int .i64 U, .int .u64 C, .int .i64 H, .int .i64 K] _ hrg Try.underlying24 rfl (by kernel_rfl)) ?_
  simp only [List.setIfInBounds_toArray, List.set_cons_zero, List.set_cons_succ]
  refine wpAnyH_ready (rs := [24]) (by kernel_rfl) (by simp) ?_
  refine AllReadyH.cons rfl (fun Kx hK => ?_) AllReadyH.nil
  rw [if_pos (by kernel_rfl)]
  go_simp
  refine (HK.out _).mono ?_
  intro e1 q1 hh
  obtain ⟨he, hq1⟩ := hh.out
  subst he
  have hS1 : Below w0.heap.size w0 q1 := (hS0).trans (hq1.mono (hS0).size)
  clear hh
  go_wp2_with fail
  refine hK.out _ _ hS1 (fun _ => ?_)
  clear hK Kx
  try simp only [Act.put, List.setIfInBounds_toArray, List.set_cons_zero, List.set_cons_succ]
  refine takeH_at 25 44 (.bool true) rfl rfl (by kernel_rfl) (by kernel_rfl) (by kernel_rfl) (fun _ _ _ h => h) (hS1) (Or.inl ⟨by kernel_rfl, fun w' hS' => by go_simp⟩) ?_
  simp only [List.setIfInBounds_toArray, List.set_cons_zero, List.set_cons_succ]
  refine takeH_at 26 45 (.bool true) rfl rfl (by kernel_rfl) (by kernel_rfl) (by kernel_rfl) (fun _ _ _ h => h) (hS1) (Or.inl ⟨by kernel_rfl, fun w' hS' => by go_simp⟩) ?_
  simp only [List.setIfInBounds_toArray, List.set_cons_zero, List.set_cons_succ]
  refine takeH_at 27 46 (.bool true) rfl rfl (by kernel_rfl) (by kernel_rfl) (by kernel_rfl) (fun _ _ _ h => h) (hS1) (Or.inl ⟨by kernel_rfl, fun w' hS' => by go_simp⟩) ?_
  simp only [List.setIfInBounds_toArray, List.set_cons_zero, List.set_cons_succ]
  refine takeH_at 28 47 (.pointer (some ⟨w.heap.size + 1, 0, none⟩)) rfl rfl (by kernel_rfl) (by kernel_rfl) (by kernel_rfl) (fun _ _ _ h => h) (hS1) (Or.inl ⟨by kernel_rfl, fun w' hS' => by go_simp⟩) ?_
  simp only [List.setIfInBounds_toArray, List.set_cons_zero, List.set_cons_succ]
  refine takeH_at 29 48 (.int .i64 ao) rfl rfl (by kernel_rfl) (by kernel_rfl) (by kernel_rfl) (fun _ _ _ h => h) (hS1) (Or.inl ⟨by kernel_rfl, fun w' hS' => by have q := hao w' hS'; go_simp⟩) ?_
  simp only [List.setIfInBounds_toArray, List.set_cons_zero, List.set_cons_succ]
  refine takeH_at 30 49 (.agg #[.int .i64 U, .int .u64 C, .int .i64 H, .int .i64 K]) rfl rfl (by kernel_rfl) (by kernel_rfl) (by kernel_rfl) (fun _ _ _ h => h) (hS1) (yieldsIf_load_mid (by kernel_rfl) 24 (.tmp 4) rfl w.heap.size 0 rfl [.int .i64 U, .int .u64 C, .int .i64 H, .int .i64 K] _ hrg Try.underlying24 rfl (by kernel_rfl)) ?_
  simp only [List.setIfInBounds_toArray, List.set_cons_zero, List.set_cons_succ]
  refine takeH_at 32 51 (.pointer (some ⟨w.heap.size + 1, 1, none⟩)) rfl rfl (by kernel_rfl) (by kernel_rfl) (by kernel_rfl) (fun _ _ _ h => h) (hS1) (Or.inl ⟨by kernel_rfl, fun w' hS' => by go_simp⟩) ?_
  simp only [List.setIfInBounds_toArray, List.set_cons_zero, List.set_cons_succ]
  refine takeH_at 33 52 (.int .i64 az) rfl rfl (by kernel_rfl) (by kernel_rfl) (by kernel_rfl) (fun _ _ _ h => h) (hS1) (Or.inl ⟨by kernel_rfl, fun w' hS' => by have q := haz w' hS'; go_simp⟩) ?_
  simp only [List.setIfInBounds_toArray, List.set_cons_zero, List.set_cons_succ]
  refine wpAnyH_ready (rs := [31]) (by kernel_rfl) (by simp) ?_
  refine AllReadyH.cons rfl (fun Kx hK => ?_) AllReadyH.nil
  rw [if_pos (by kernel_rfl)]
  go_simp
  refine (HD.out _).mono ?_
  intro e1 q2 hh
  obtain ⟨he, hq2⟩ := hh.out
  subst he
  have hS2 : Below w0.heap.size w0 q2 := (hS1).trans (hq2.mono (hS1).size)
  clear hh
  go_wp2_with fail
  refine hK.out _ _ hS2 (fun _ => ?_)
  clear hK Kx
  try simp only [Act.put, List.setIfInBounds_toArray, List.set_cons_zero, List.set_cons_succ]
  refine takeH_at 34 53 (.int .i64 (2 * H + K - az)) rfl rfl (by kernel_rfl) (by kernel_rfl) (by kernel_rfl) (fun _ _ _ h => h) (hS2) (Or.inl ⟨by kernel_rfl, fun w' hS' => by go_simp⟩) ?_
  simp only [List.setIfInBounds_toArray, List.set_cons_zero, List.set_cons_succ]
  refine takeH_at 35 54 (.bool (decide (ao ≤ 2 * H + K - az))) rfl rfl (by kernel_rfl) (by kernel_rfl) (by kernel_rfl) (fun _ _ _ h => h) (hS2) (Or.inl ⟨by kernel_rfl, fun w' hS' => by go_simp⟩) ?_
  simp only [List.setIfInBounds_toArray, List.set_cons_zero, List.set_cons_succ]
  refine takeH_at 36 55 (.bool (decide (ao ≤ 2 * H + K - az))) rfl rfl (by kernel_rfl) (by kernel_rfl) (by kernel_rfl) (fun _ _ _ h => h) (hS2) (Or.inl ⟨by kernel_rfl, fun w' hS' => by go_simp⟩) ?_
  simp only [List.setIfInBounds_toArray, List.set_cons_zero, List.set_cons_succ]
  refine takeH_at 37 8 (.bool (decide (ao ≤ 2 * H + K - az))) rfl rfl (by kernel_rfl) (by kernel_rfl) (by kernel_rfl) (fun _ _ _ h => h) (hS2) (Or.inl ⟨by kernel_rfl, fun w' hS' => by go_simp⟩) ?_
  simp only [List.setIfInBounds_toArray, List.set_cons_zero, List.set_cons_succ]
  refine wpAnyH_done (by kernel_rfl) ?_ _
  refine NoPanic.normal ?_
  go_wp2_with fail
  go_ret
  exact ⟨rfl, HA.out.2.trans (hS2.mono HA.out.2.size)⟩
set_option maxHeartbeats 3200000 in
set_option maxRecDepth 100000 in
theorem rarea_0 (U C H K ao az mode : Int) (hot : Nat) (w : World) (h1 : 0 ≤ H) (h2 : H ≤ 4194304) (k1 : 0 ≤ K) (k2 : K ≤ 134217728) (z2 : az ≤ 9223372036854775807) (hg : roomG U mode hot = false) : Calls Try.prog 27 #[.agg #[.int .i64 U, .int .u64 C, .int .i64 H, .int .i64 K], .agg #[.int .i64 ao, .int .i64 az], .int .i64 mode, .int .u64 (hot : Nat)] w fun e w' => Hid (e = .returned (.bool (false)) ∧ Below w.heap.size w w') := by
  have HR : Hid (∀ v, Calls Try.prog 36 #[.int .i64 U, .int .i64 mode, .int .u64 (hot : Nat)] v fun e w' => e = .returned (.tuple #[.int .i64 (roomF U mode hot : Nat), .int .i64 2]) ∧ w' = v) := fun v => by
    have q := rroom_ok U mode hot v
    rw [show roomE U mode hot = 2 by simp [roomE, hg]] at q
    exact q
  generalize roomF U mode hot = R at *
  have HA : Hid (AAt ((w.alloc (.cells #[.int .i64 U, .int .u64 C, .int .i64 H, .int .i64 K] 24)).alloc (.cells #[.int .i64 ao, .int .i64 az] 31)) w.heap.size U C H K ao az ∧ Below w.heap.size w ((w.alloc (.cells #[.int .i64 U, .int .u64 C, .int .i64 H, .int .i64 K] 24)).alloc (.cells #[.int .i64 ao, .int .i64 az] 31))) := ⟨AAt.new _ _ _ _ _ _ _, AAt.nb _ _ _⟩
  have e2 : IntKind.i64.wrap (2 * H) = 2 * H := by rw [IntKind.wrap_i64]; omega
  have e3 : IntKind.i64.wrap (2 * H + K) = 2 * H + K := by rw [IntKind.wrap_i64]; omega
  clear hg
  go_enter Try.func27, Try.ntmps27
  go_upto_region 1 with fail
  generalize ((w.alloc (.cells #[.int .i64 U, .int .u64 C, .int .i64 H, .int .i64 K] 24)).alloc (.cells #[.int .i64 ao, .int .i64 az] 31)) = w0 at HA ⊢
  have c0 := HA.out.1.sa.c0
  have c2 := HA.out.1.sa.c2
  have c3 := HA.out.1.sa.c3
  have a0 := HA.out.1.a0
  have a1 := HA.out.1.a1
  go_wp2_with (go_at_call 36; refine (HR.out _).mono ?_; rintro e5 w5 ⟨rfl, hw5⟩; obtain rfl := hw5.symm)
  all_goals
    go_ret
    exact ⟨rfl, HA.out.2⟩
set_option maxHeartbeats 3200000 in
set_option maxRecDepth 100000 in
theorem rarea_1 (U C H K ao az mode : Int) (hot : Nat) (w : World) (h1 : 0 ≤ H) (h2 : H ≤ 4194304) (k1 : 0 ≤ K) (k2 : K ≤ 134217728) (z2 : az ≤ 9223372036854775807) (hg : roomG U mode hot = true) (ho : ¬ ao % 4096 = 0) : Calls Try.prog 27 #[.agg #[.int .i64 U, .int .u64 C, .int .i64 H, .int .i64 K], .agg #[.int .i64 ao, .int .i64 az], .int .i64 mode, .int .u64 (hot : Nat)] w fun e w' => Hid (e = .returned (.bool (false)) ∧ Below w.heap.size w w') := by
  have HR : Hid (∀ v, Calls Try.prog 36 #[.int .i64 U, .int .i64 mode, .int .u64 (hot : Nat)] v fun e w' => e = .returned (.tuple #[.int .i64 (roomF U mode hot : Nat), .int .i64 0]) ∧ w' = v) := fun v => by
    have q := rroom_ok U mode hot v
    rw [show roomE U mode hot = 0 by simp [roomE, hg]] at q
    exact q
  generalize roomF U mode hot = R at *
  have qo : (ao.tmod 4096 == 0) = false := by rw [tmod_zero]; simpa using ho
  have qo2 : (ao.tmod 4096 != 0) = true := by simp only [bne, qo]; rfl
  have HA : Hid (AAt ((w.alloc (.cells #[.int .i64 U, .int .u64 C, .int .i64 H, .int .i64 K] 24)).alloc (.cells #[.int .i64 ao, .int .i64 az] 31)) w.heap.size U C H K ao az ∧ Below w.heap.size w ((w.alloc (.cells #[.int .i64 U, .int .u64 C, .int .i64 H, .int .i64 K] 24)).alloc (.cells #[.int .i64 ao, .int .i64 az] 31))) := ⟨AAt.new _ _ _ _ _ _ _, AAt.nb _ _ _⟩
  have e2 : IntKind.i64.wrap (2 * H) = 2 * H := by rw [IntKind.wrap_i64]; omega
  have e3 : IntKind.i64.wrap (2 * H + K) = 2 * H + K := by rw [IntKind.wrap_i64]; omega
  clear hg ho
  go_enter Try.func27, Try.ntmps27
  go_upto_region 1 with fail
  generalize ((w.alloc (.cells #[.int .i64 U, .int .u64 C, .int .i64 H, .int .i64 K] 24)).alloc (.cells #[.int .i64 ao, .int .i64 az] 31)) = w0 at HA ⊢
  have c0 := HA.out.1.sa.c0
  have c2 := HA.out.1.sa.c2
  have c3 := HA.out.1.sa.c3
  have a0 := HA.out.1.a0
  have a1 := HA.out.1.a1
  go_wp2_with (go_at_call 36; refine (HR.out _).mono ?_; rintro e5 w5 ⟨rfl, hw5⟩; obtain rfl := hw5.symm)
  all_goals
    go_ret
    exact ⟨rfl, HA.out.2⟩
set_option maxHeartbeats 3200000 in
set_option maxRecDepth 100000 in
theorem rarea_2 (U C H K ao az mode : Int) (hot : Nat) (w : World) (h1 : 0 ≤ H) (h2 : H ≤ 4194304) (k1 : 0 ≤ K) (k2 : K ≤ 134217728) (z2 : az ≤ 9223372036854775807) (hg : roomG U mode hot = true) (ho : ao % 4096 = 0) (hz : ¬ az % 4096 = 0) : Calls Try.prog 27 #[.agg #[.int .i64 U, .int .u64 C, .int .i64 H, .int .i64 K], .agg #[.int .i64 ao, .int .i64 az], .int .i64 mode, .int .u64 (hot : Nat)] w fun e w' => Hid (e = .returned (.bool (false)) ∧ Below w.heap.size w w') := by
  have HR : Hid (∀ v, Calls Try.prog 36 #[.int .i64 U, .int .i64 mode, .int .u64 (hot : Nat)] v fun e w' => e = .returned (.tuple #[.int .i64 (roomF U mode hot : Nat), .int .i64 0]) ∧ w' = v) := fun v => by
    have q := rroom_ok U mode hot v
    rw [show roomE U mode hot = 0 by simp [roomE, hg]] at q
    exact q
  generalize roomF U mode hot = R at *
  have qo : (ao.tmod 4096 == 0) = true := by rw [tmod_zero]; simpa using ho
  have qo2 : (ao.tmod 4096 != 0) = false := by simp only [bne, qo]; rfl
  have qz : (az.tmod 4096 == 0) = false := by rw [tmod_zero]; simpa using hz
  have qz2 : (az.tmod 4096 != 0) = true := by simp only [bne, qz]; rfl
  have HA : Hid (AAt ((w.alloc (.cells #[.int .i64 U, .int .u64 C, .int .i64 H, .int .i64 K] 24)).alloc (.cells #[.int .i64 ao, .int .i64 az] 31)) w.heap.size U C H K ao az ∧ Below w.heap.size w ((w.alloc (.cells #[.int .i64 U, .int .u64 C, .int .i64 H, .int .i64 K] 24)).alloc (.cells #[.int .i64 ao, .int .i64 az] 31))) := ⟨AAt.new _ _ _ _ _ _ _, AAt.nb _ _ _⟩
  have e2 : IntKind.i64.wrap (2 * H) = 2 * H := by rw [IntKind.wrap_i64]; omega
  have e3 : IntKind.i64.wrap (2 * H + K) = 2 * H + K := by rw [IntKind.wrap_i64]; omega
  clear hg ho hz
  go_enter Try.func27, Try.ntmps27
  go_upto_region 1 with fail
  generalize ((w.alloc (.cells #[.int .i64 U, .int .u64 C, .int .i64 H, .int .i64 K] 24)).alloc (.cells #[.int .i64 ao, .int .i64 az] 31)) = w0 at HA ⊢
  have c0 := HA.out.1.sa.c0
  have c2 := HA.out.1.sa.c2
  have c3 := HA.out.1.sa.c3
  have a0 := HA.out.1.a0
  have a1 := HA.out.1.a1
  go_wp2_with (go_at_call 36; refine (HR.out _).mono ?_; rintro e5 w5 ⟨rfl, hw5⟩; obtain rfl := hw5.symm)
  all_goals
    go_ret
    exact ⟨rfl, HA.out.2⟩
set_option maxHeartbeats 3200000 in
set_option maxRecDepth 100000 in
theorem rarea_3 (U C H K ao az mode : Int) (hot : Nat) (w : World) (h1 : 0 ≤ H) (h2 : H ≤ 4194304) (k1 : 0 ≤ K) (k2 : K ≤ 134217728) (z2 : az ≤ 9223372036854775807) (hg : roomG U mode hot = true) (ho : ao % 4096 = 0) (hz : az % 4096 = 0) (hr : ¬ (roomF U mode hot : Int) ≤ az) : Calls Try.prog 27 #[.agg #[.int .i64 U, .int .u64 C, .int .i64 H, .int .i64 K], .agg #[.int .i64 ao, .int .i64 az], .int .i64 mode, .int .u64 (hot : Nat)] w fun e w' => Hid (e = .returned (.bool (false)) ∧ Below w.heap.size w w') := by
  have HR : Hid (∀ v, Calls Try.prog 36 #[.int .i64 U, .int .i64 mode, .int .u64 (hot : Nat)] v fun e w' => e = .returned (.tuple #[.int .i64 (roomF U mode hot : Nat), .int .i64 0]) ∧ w' = v) := fun v => by
    have q := rroom_ok U mode hot v
    rw [show roomE U mode hot = 0 by simp [roomE, hg]] at q
    exact q
  generalize roomF U mode hot = R at *
  have qo : (ao.tmod 4096 == 0) = true := by rw [tmod_zero]; simpa using ho
  have qo2 : (ao.tmod 4096 != 0) = false := by simp only [bne, qo]; rfl
  have qz : (az.tmod 4096 == 0) = true := by rw [tmod_zero]; simpa using hz
  have qz2 : (az.tmod 4096 != 0) = false := by simp only [bne, qz]; rfl
  have qr : decide ((R : Int) ≤ az) = false := by simpa using hr
  have HA : Hid (AAt ((w.alloc (.cells #[.int .i64 U, .int .u64 C, .int .i64 H, .int .i64 K] 24)).alloc (.cells #[.int .i64 ao, .int .i64 az] 31)) w.heap.size U C H K ao az ∧ Below w.heap.size w ((w.alloc (.cells #[.int .i64 U, .int .u64 C, .int .i64 H, .int .i64 K] 24)).alloc (.cells #[.int .i64 ao, .int .i64 az] 31))) := ⟨AAt.new _ _ _ _ _ _ _, AAt.nb _ _ _⟩
  have e2 : IntKind.i64.wrap (2 * H) = 2 * H := by rw [IntKind.wrap_i64]; omega
  have e3 : IntKind.i64.wrap (2 * H + K) = 2 * H + K := by rw [IntKind.wrap_i64]; omega
  clear hg ho hz hr
  go_enter Try.func27, Try.ntmps27
  go_upto_region 1 with fail
  generalize ((w.alloc (.cells #[.int .i64 U, .int .u64 C, .int .i64 H, .int .i64 K] 24)).alloc (.cells #[.int .i64 ao, .int .i64 az] 31)) = w0 at HA ⊢
  have c0 := HA.out.1.sa.c0
  have c2 := HA.out.1.sa.c2
  have c3 := HA.out.1.sa.c3
  have a0 := HA.out.1.a0
  have a1 := HA.out.1.a1
  go_wp2_with (go_at_call 36; refine (HR.out _).mono ?_; rintro e5 w5 ⟨rfl, hw5⟩; obtain rfl := hw5.symm)
  all_goals
    go_ret
    exact ⟨rfl, HA.out.2⟩
set_option maxHeartbeats 3200000 in
set_option maxRecDepth 100000 in
theorem rarea_4 (U C H K ao az mode : Int) (hot : Nat) (w : World) (h1 : 0 ≤ H) (h2 : H ≤ 4194304) (k1 : 0 ≤ K) (k2 : K ≤ 134217728) (z2 : az ≤ 9223372036854775807) (hg : roomG U mode hot = true) (ho : ao % 4096 = 0) (hz : az % 4096 = 0) (hr : (roomF U mode hot : Int) ≤ az) (hh : ¬ 2 * H ≤ ao) : Calls Try.prog 27 #[.agg #[.int .i64 U, .int .u64 C, .int .i64 H, .int .i64 K], .agg #[.int .i64 ao, .int .i64 az], .int .i64 mode, .int .u64 (hot : Nat)] w fun e w' => Hid (e = .returned (.bool (false)) ∧ Below w.heap.size w w') := by
  have HR : Hid (∀ v, Calls Try.prog 36 #[.int .i64 U, .int .i64 mode, .int .u64 (hot : Nat)] v fun e w' => e = .returned (.tuple #[.int .i64 (roomF U mode hot : Nat), .int .i64 0]) ∧ w' = v) := fun v => by
    have q := rroom_ok U mode hot v
    rw [show roomE U mode hot = 0 by simp [roomE, hg]] at q
    exact q
  generalize roomF U mode hot = R at *
  have qo : (ao.tmod 4096 == 0) = true := by rw [tmod_zero]; simpa using ho
  have qo2 : (ao.tmod 4096 != 0) = false := by simp only [bne, qo]; rfl
  have qz : (az.tmod 4096 == 0) = true := by rw [tmod_zero]; simpa using hz
  have qz2 : (az.tmod 4096 != 0) = false := by simp only [bne, qz]; rfl
  have qr : decide ((R : Int) ≤ az) = true := by simpa using hr
  have qh : decide (2 * H ≤ ao) = false := by simpa using hh
  have HA : Hid (AAt ((w.alloc (.cells #[.int .i64 U, .int .u64 C, .int .i64 H, .int .i64 K] 24)).alloc (.cells #[.int .i64 ao, .int .i64 az] 31)) w.heap.size U C H K ao az ∧ Below w.heap.size w ((w.alloc (.cells #[.int .i64 U, .int .u64 C, .int .i64 H, .int .i64 K] 24)).alloc (.cells #[.int .i64 ao, .int .i64 az] 31))) := ⟨AAt.new _ _ _ _ _ _ _, AAt.nb _ _ _⟩
  have e2 : IntKind.i64.wrap (2 * H) = 2 * H := by rw [IntKind.wrap_i64]; omega
  have e3 : IntKind.i64.wrap (2 * H + K) = 2 * H + K := by rw [IntKind.wrap_i64]; omega
  clear hg ho hz hr hh
  go_enter Try.func27, Try.ntmps27
  go_upto_region 1 with fail
  generalize ((w.alloc (.cells #[.int .i64 U, .int .u64 C, .int .i64 H, .int .i64 K] 24)).alloc (.cells #[.int .i64 ao, .int .i64 az] 31)) = w0 at HA ⊢
  have c0 := HA.out.1.sa.c0
  have c2 := HA.out.1.sa.c2
  have c3 := HA.out.1.sa.c3
  have a0 := HA.out.1.a0
  have a1 := HA.out.1.a1
  go_wp2_with (go_at_call 36; refine (HR.out _).mono ?_; rintro e5 w5 ⟨rfl, hw5⟩; obtain rfl := hw5.symm)
  all_goals
    go_ret
    exact ⟨rfl, HA.out.2⟩
set_option maxHeartbeats 3200000 in
set_option maxRecDepth 100000 in
theorem rarea_5 (U C H K ao az mode : Int) (hot : Nat) (w : World) (h1 : 0 ≤ H) (h2 : H ≤ 4194304) (k1 : 0 ≤ K) (k2 : K ≤ 134217728) (z2 : az ≤ 9223372036854775807) (hg : roomG U mode hot = true) (ho : ao % 4096 = 0) (hz : az % 4096 = 0) (hr : (roomF U mode hot : Int) ≤ az) (hh : 2 * H ≤ ao) (he : ¬ ao ≤ 2 * H + K) : Calls Try.prog 27 #[.agg #[.int .i64 U, .int .u64 C, .int .i64 H, .int .i64 K], .agg #[.int .i64 ao, .int .i64 az], .int .i64 mode, .int .u64 (hot : Nat)] w fun e w' => Hid (e = .returned (.bool (false)) ∧ Below w.heap.size w w') := by
  have HR : Hid (∀ v, Calls Try.prog 36 #[.int .i64 U, .int .i64 mode, .int .u64 (hot : Nat)] v fun e w' => e = .returned (.tuple #[.int .i64 (roomF U mode hot : Nat), .int .i64 0]) ∧ w' = v) := fun v => by
    have q := rroom_ok U mode hot v
    rw [show roomE U mode hot = 0 by simp [roomE, hg]] at q
    exact q
  generalize roomF U mode hot = R at *
  have qo : (ao.tmod 4096 == 0) = true := by rw [tmod_zero]; simpa using ho
  have qo2 : (ao.tmod 4096 != 0) = false := by simp only [bne, qo]; rfl
  have qz : (az.tmod 4096 == 0) = true := by rw [tmod_zero]; simpa using hz
  have qz2 : (az.tmod 4096 != 0) = false := by simp only [bne, qz]; rfl
  have qr : decide ((R : Int) ≤ az) = true := by simpa using hr
  have qh : decide (2 * H ≤ ao) = true := by simpa using hh
  have qe : decide (ao ≤ 2 * H + K) = false := by simpa using he
  have HA : Hid (AAt ((w.alloc (.cells #[.int .i64 U, .int .u64 C, .int .i64 H, .int .i64 K] 24)).alloc (.cells #[.int .i64 ao, .int .i64 az] 31)) w.heap.size U C H K ao az ∧ Below w.heap.size w ((w.alloc (.cells #[.int .i64 U, .int .u64 C, .int .i64 H, .int .i64 K] 24)).alloc (.cells #[.int .i64 ao, .int .i64 az] 31))) := ⟨AAt.new _ _ _ _ _ _ _, AAt.nb _ _ _⟩
  have e2 : IntKind.i64.wrap (2 * H) = 2 * H := by rw [IntKind.wrap_i64]; omega
  have e3 : IntKind.i64.wrap (2 * H + K) = 2 * H + K := by rw [IntKind.wrap_i64]; omega
  clear hg ho hz hr hh he
  go_enter Try.func27, Try.ntmps27
  go_upto_region 1 with fail
  generalize ((w.alloc (.cells #[.int .i64 U, .int .u64 C, .int .i64 H, .int .i64 K] 24)).alloc (.cells #[.int .i64 ao, .int .i64 az] 31)) = w0 at HA ⊢
  have c0 := HA.out.1.sa.c0
  have c2 := HA.out.1.sa.c2
  have c3 := HA.out.1.sa.c3
  have a0 := HA.out.1.a0
  have a1 := HA.out.1.a1
  go_wp2_with (go_at_call 36; refine (HR.out _).mono ?_; rintro e5 w5 ⟨rfl, hw5⟩; obtain rfl := hw5.symm)
  all_goals
    go_ret
    exact ⟨rfl, HA.out.2⟩
set_option maxHeartbeats 3200000 in
set_option maxRecDepth 100000 in
theorem rarea_6 (U C H K ao az mode : Int) (hot : Nat) (w : World) (h1 : 0 ≤ H) (h2 : H ≤ 4194304) (k1 : 0 ≤ K) (k2 : K ≤ 134217728) (z2 : az ≤ 9223372036854775807) (hg : roomG U mode hot = true) (ho : ao % 4096 = 0) (hz : az % 4096 = 0) (hr : (roomF U mode hot : Int) ≤ az) (hh : 2 * H ≤ ao) (he : ao ≤ 2 * H + K) : Calls Try.prog 27 #[.agg #[.int .i64 U, .int .u64 C, .int .i64 H, .int .i64 K], .agg #[.int .i64 ao, .int .i64 az], .int .i64 mode, .int .u64 (hot : Nat)] w fun e w' => Hid (e = .returned (.bool (decide (az ≤ 2 * H + K - ao))) ∧ Below w.heap.size w w') := by
  have HR : Hid (∀ v, Calls Try.prog 36 #[.int .i64 U, .int .i64 mode, .int .u64 (hot : Nat)] v fun e w' => e = .returned (.tuple #[.int .i64 (roomF U mode hot : Nat), .int .i64 0]) ∧ w' = v) := fun v => by
    have q := rroom_ok U mode hot v
    rw [show roomE U mode hot = 0 by simp [roomE, hg]] at q
    exact q
  generalize roomF U mode hot = R at *
  have qo : (ao.tmod 4096 == 0) = true := by rw [tmod_zero]; simpa using ho
  have qo2 : (ao.tmod 4096 != 0) = false := by simp only [bne, qo]; rfl
  have qz : (az.tmod 4096 == 0) = true := by rw [tmod_zero]; simpa using hz
  have qz2 : (az.tmod 4096 != 0) = false := by simp only [bne, qz]; rfl
  have qr : decide ((R : Int) ≤ az) = true := by simpa using hr
  have qh : decide (2 * H ≤ ao) = true := by simpa using hh
  have qe : decide (ao ≤ 2 * H + K) = true := by simpa using he
  have HA : Hid (AAt ((w.alloc (.cells #[.int .i64 U, .int .u64 C, .int .i64 H, .int .i64 K] 24)).alloc (.cells #[.int .i64 ao, .int .i64 az] 31)) w.heap.size U C H K ao az ∧ Below w.heap.size w ((w.alloc (.cells #[.int .i64 U, .int .u64 C, .int .i64 H, .int .i64 K] 24)).alloc (.cells #[.int .i64 ao, .int .i64 az] 31))) := ⟨AAt.new _ _ _ _ _ _ _, AAt.nb _ _ _⟩
  have e2 : IntKind.i64.wrap (2 * H) = 2 * H := by rw [IntKind.wrap_i64]; omega
  have e3 : IntKind.i64.wrap (2 * H + K) = 2 * H + K := by rw [IntKind.wrap_i64]; omega
  have ew : IntKind.i64.wrap (2 * H + K - ao) = 2 * H + K - ao := by rw [IntKind.wrap_i64]; omega
  clear hg ho hz hr hh he
  go_enter Try.func27, Try.ntmps27
  go_upto_region 1 with fail
  generalize ((w.alloc (.cells #[.int .i64 U, .int .u64 C, .int .i64 H, .int .i64 K] 24)).alloc (.cells #[.int .i64 ao, .int .i64 az] 31)) = w0 at HA ⊢
  have c0 := HA.out.1.sa.c0
  have c2 := HA.out.1.sa.c2
  have c3 := HA.out.1.sa.c3
  have a0 := HA.out.1.a0
  have a1 := HA.out.1.a1
  go_wp2_with (go_at_call 36; refine (HR.out _).mono ?_; rintro e5 w5 ⟨rfl, hw5⟩; obtain rfl := hw5.symm)
  all_goals
    go_ret
    exact ⟨rfl, HA.out.2⟩
theorem area_ok (U C H K ao az mode : Int) (hot : Nat) (w : World) (h1 : 0 ≤ H) (h2 : H ≤ 4194304) (k1 : 0 ≤ K) (k2 : K ≤ 134217728) (z2 : az ≤ 9223372036854775807) : Calls Try.prog 19 #[.agg #[.int .i64 U, .int .u64 C, .int .i64 H, .int .i64 K], .agg #[.int .i64 ao, .int .i64 az], .int .i64 mode, .int .u64 (hot : Nat)] w fun e w' => Hid (e = .returned (.bool (areaB U H K ao az mode hot)) ∧ Below w.heap.size w w') := by
  by_cases hg : roomG U mode hot = true
  · by_cases hr : (roomF U mode hot : Int) ≤ az
    · by_cases ho : ao % 4096 = 0
      · by_cases hz : az % 4096 = 0
        · by_cases hh : 2 * H ≤ ao
          · have e : areaB U H K ao az mode hot = decide (ao ≤ 2 * H + K - az) := by simp [areaB, hg, hr, ho, hz, hh]
            rw [e]; exact area_5 U C H K ao az mode hot w h1 h2 k1 k2 z2 hg hr ho hz hh
          · have e : areaB U H K ao az mode hot = false := by simp [areaB, hh]
            rw [e]; exact area_4 U C H K ao az mode hot w h1 h2 k1 k2 z2 hg hr ho hz hh
        · have e : areaB U H K ao az mode hot = false := by simp [areaB, hz]
          rw [e]; exact area_3 U C H K ao az mode hot w h1 h2 k1 k2 z2 hg hr ho hz
      · have e : areaB U H K ao az mode hot = false := by simp [areaB, ho]
        rw [e]; exact area_2 U C H K ao az mode hot w h1 h2 k1 k2 z2 hg hr ho
    · have e : areaB U H K ao az mode hot = false := by simp [areaB, hr]
      rw [e]; exact area_1 U C H K ao az mode hot w h1 h2 k1 k2 z2 hg hr
  · have hg' : roomG U mode hot = false := by simpa using hg
    have e : areaB U H K ao az mode hot = false := by simp [areaB, hg']
    rw [e]; exact area_0 U C H K ao az mode hot w h1 h2 k1 k2 z2 hg'
theorem rarea_ok (U C H K ao az mode : Int) (hot : Nat) (w : World) (h1 : 0 ≤ H) (h2 : H ≤ 4194304) (k1 : 0 ≤ K) (k2 : K ≤ 134217728) (z2 : az ≤ 9223372036854775807) : Calls Try.prog 27 #[.agg #[.int .i64 U, .int .u64 C, .int .i64 H, .int .i64 K], .agg #[.int .i64 ao, .int .i64 az], .int .i64 mode, .int .u64 (hot : Nat)] w fun e w' => Hid (e = .returned (.bool (areaB U H K ao az mode hot)) ∧ Below w.heap.size w w') := by
  by_cases hg : roomG U mode hot = true
  · by_cases ho : ao % 4096 = 0
    · by_cases hz : az % 4096 = 0
      · by_cases hr : (roomF U mode hot : Int) ≤ az
        · by_cases hh : 2 * H ≤ ao
          · by_cases he : ao ≤ 2 * H + K
            · have e : areaB U H K ao az mode hot = decide (az ≤ 2 * H + K - ao) := by
                have q : decide (ao ≤ 2 * H + K - az) = decide (az ≤ 2 * H + K - ao) := by rw [decide_eq_decide]; omega
                simp only [areaB, hg, decide_eq_true hr, decide_eq_true ho, decide_eq_true hz, decide_eq_true hh, q, Bool.true_and]
              rw [e]; exact rarea_6 U C H K ao az mode hot w h1 h2 k1 k2 z2 hg ho hz hr hh he
            · have e : areaB U H K ao az mode hot = false := by
                have q : ¬ ao ≤ 2 * H + K - az := by omega
                simp [areaB, q]
              rw [e]; exact rarea_5 U C H K ao az mode hot w h1 h2 k1 k2 z2 hg ho hz hr hh he
          · have e : areaB U H K ao az mode hot = false := by simp [areaB, hh]
            rw [e]; exact rarea_4 U C H K ao az mode hot w h1 h2 k1 k2 z2 hg ho hz hr hh
        · have e : areaB U H K ao az mode hot = false := by simp [areaB, hr]
          rw [e]; exact rarea_3 U C H K ao az mode hot w h1 h2 k1 k2 z2 hg ho hz hr
      · have e : areaB U H K ao az mode hot = false := by simp [areaB, hz]
        rw [e]; exact rarea_2 U C H K ao az mode hot w h1 h2 k1 k2 z2 hg ho hz
    · have e : areaB U H K ao az mode hot = false := by simp [areaB, ho]
      rw [e]; exact rarea_1 U C H K ao az mode hot w h1 h2 k1 k2 z2 hg ho
  · have hg' : roomG U mode hot = false := by simpa using hg
    have e : areaB U H K ao az mode hot = false := by simp [areaB, hg']
    rw [e]; exact rarea_0 U C H K ao az mode hot w h1 h2 k1 k2 z2 hg'
end Go.Proofs.Ytmfnhdflmnmooaa
