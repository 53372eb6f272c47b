import Derived.Test.YtmfnhdflmnmooaaNxa
namespace Go.Proofs.Ytmfnhdflmnmooaa
open Go.RowKit
set_option linter.unusedVariables false
set_option linter.unusedSimpArgs false
/-- A rotation, as a value. -/
abbrev roA (on : Bool) (fr to : Int) (back : Bool) (mode : Int) (hot done : Nat) (ao az : Int) (act : Bool) (cnt : Int) (sum : ByteArray) : Array Value := #[.bool on, .int .u64 fr, .int .u64 to, .bool back, .int .i64 mode, .int .u64 (hot : Nat), .int .u64 (done : Nat), .int .i64 ao, .int .i64 az, .bool act, .int .u64 cnt, .string sum]
set_option maxHeartbeats 1600000 in
set_option maxRecDepth 100000 in
theorem hotz_ok (on : Bool) (fr to : Int) (back : Bool) (mode : Int) (hot done : Nat) (ao az : Int) (act : Bool) (cnt : Int) (sum : ByteArray) (n : Nat) (hn : n ≤ 4294967296) (hd : done ≤ n) (w : World) : Calls Try.prog 38 #[.int .u64 (n : Nat), .agg (roA on fr to back mode hot done ao az act cnt sum)] w fun e w' => e = .returned (.tuple #[.int .u64 ((if back then n - done - min hot (n - done) else done : Nat) : Int), .int .u64 ((min hot (n - done) : Nat) : Int)]) ∧ Below w.heap.size w w' := by
  go_enter Try.func38, Try.ntmps38
  go_upto_region 1 with fail
  have HA : Hid (Below w.heap.size w (w.alloc (.cells (roA on fr to back mode hot done ao az act cnt sum) 33)) ∧ (w.alloc (.cells (roA on fr to back mode hot done ao az act cnt sum) 33)).cell? ⟨w.heap.size, 3, none⟩ = some (.bool back) ∧ (w.alloc (.cells (roA on fr to back mode hot done ao az act cnt sum) 33)).cell? ⟨w.heap.size, 5, none⟩ = some (.int .u64 (hot : Nat)) ∧ (w.alloc (.cells (roA on fr to back mode hot done ao az act cnt sum) 33)).cell? ⟨w.heap.size, 6, none⟩ = some (.int .u64 (done : Nat))) :=
    ⟨below_alloc1 _ _, rangeAt_new w _ 33 3 _ rfl, rangeAt_new w _ 33 5 _ rfl, rangeAt_new w _ 33 6 _ rfl⟩
  generalize w.alloc (.cells (roA on fr to back mode hot done ao az act cnt sum) 33) = w0 at HA ⊢
  generalize roA on fr to back mode hot done ao az act cnt sum = RA at ⊢
  obtain ⟨_, c3, c5, c6⟩ := HA.out
  obtain ⟨l, hl⟩ : ∃ l, n = done + l := ⟨n - done, by omega⟩
  subst hl
  have e1 : (((done + l : Nat) : Int) - (done : Int)) = (l : Int) := by omega
  have e1' : ((done : Int) + (l : Int) - (done : Int)) = (l : Int) := by omega
  have e2 : done + l - done = l := by omega
  by_cases hh : hot < l
  · have m1 : min hot l = hot := by omega
    have d1 : decide ((hot : Int) < (l : Int)) = true := by simp; omega
    have d2 : ¬ (l : Int) < (hot : Int) := by omega
    have d3 : ¬ l < hot := by omega
    cases back
    · go_wp2
      go_ret2
      refine ⟨?_, HA.out.1⟩
      simp [e2, m1]
    · go_wp2
      go_ret2
      refine ⟨?_, HA.out.1⟩
      simp [e2, m1]
      try omega
  · rcases (show l < hot ∨ l = hot by omega) with h2 | h2
    · have m1 : min hot l = l := by omega
      have d1 : decide ((hot : Int) < (l : Int)) = false := by simp; omega
      have d2 : (l : Int) < (hot : Int) := by omega
      have d3 : decide ((l : Int) < (hot : Int)) = true := by simp; omega
      cases back
      · go_wp2
        go_ret2
        refine ⟨?_, HA.out.1⟩
        simp [e2, m1]
        try omega
      · go_wp2
        go_ret2
        refine ⟨?_, HA.out.1⟩
        simp [e2, m1]
        try omega
    · subst h2
      have m1 : min l l = l := by omega
      clear hh
      cases back
      · go_wp2
        go_ret2
        refine ⟨?_, HA.out.1⟩
        simp [e2, m1]
        try omega
      · go_wp2
        go_ret2
        refine ⟨?_, HA.out.1⟩
        simp [e2, m1]
        try omega
set_option maxHeartbeats 1600000 in
set_option maxRecDepth 100000 in
theorem rhotz_ok (on : Bool) (fr to : Int) (back : Bool) (mode : Int) (hot done : Nat) (ao az : Int) (act : Bool) (cnt : Int) (sum : ByteArray) (n : Nat) (hn : n ≤ 4294967296) (hd : done ≤ n) (w : World) : Calls Try.prog 40 #[.int .u64 (n : Nat), .agg (roA on fr to back mode hot done ao az act cnt sum)] w fun e w' => e = .returned (.tuple #[.int .u64 ((if back then n - done - min hot (n - done) else done : Nat) : Int), .int .u64 ((min hot (n - done) : Nat) : Int)]) ∧ Below w.heap.size w w' := by
  go_enter Try.func40, Try.ntmps40
  go_upto_region 1 with fail
  have HA : Hid (Below w.heap.size w (w.alloc (.cells (roA on fr to back mode hot done ao az act cnt sum) 33)) ∧ (w.alloc (.cells (roA on fr to back mode hot done ao az act cnt sum) 33)).cell? ⟨w.heap.size, 3, none⟩ = some (.bool back) ∧ (w.alloc (.cells (roA on fr to back mode hot done ao az act cnt sum) 33)).cell? ⟨w.heap.size, 5, none⟩ = some (.int .u64 (hot : Nat)) ∧ (w.alloc (.cells (roA on fr to back mode hot done ao az act cnt sum) 33)).cell? ⟨w.heap.size, 6, none⟩ = some (.int .u64 (done : Nat))) :=
    ⟨below_alloc1 _ _, rangeAt_new w _ 33 3 _ rfl, rangeAt_new w _ 33 5 _ rfl, rangeAt_new w _ 33 6 _ rfl⟩
  generalize w.alloc (.cells (roA on fr to back mode hot done ao az act cnt sum) 33) = w0 at HA ⊢
  generalize roA on fr to back mode hot done ao az act cnt sum = RA at ⊢
  obtain ⟨_, c3, c5, c6⟩ := HA.out
  obtain ⟨l, hl⟩ : ∃ l, n = done + l := ⟨n - done, by omega⟩
  subst hl
  have e1 : (((done + l : Nat) : Int) - (done : Int)) = (l : Int) := by omega
  have e1' : ((done : Int) + (l : Int) - (done : Int)) = (l : Int) := by omega
  have e2 : done + l - done = l := by omega
  by_cases hh : hot < l
  · have m1 : min hot l = hot := by omega
    have d1 : decide ((hot : Int) < (l : Int)) = true := by simp; omega
    have d2 : ¬ (l : Int) < (hot : Int) := by omega
    have d3 : ¬ l < hot := by omega
    cases back
    · go_wp2
      go_ret2
      refine ⟨?_, HA.out.1⟩
      simp [e2, m1]
    · go_wp2
      go_ret2
      refine ⟨?_, HA.out.1⟩
      simp [e2, m1]
      try omega
  · rcases (show l < hot ∨ l = hot by omega) with h2 | h2
    · have m1 : min hot l = l := by omega
      have d1 : decide ((hot : Int) < (l : Int)) = false := by simp; omega
      have d2 : (l : Int) < (hot : Int) := by omega
      have d3 : decide ((l : Int) < (hot : Int)) = true := by simp; omega
      cases back
      · go_wp2
        go_ret2
        refine ⟨?_, HA.out.1⟩
        simp [e2, m1]
        try omega
      · go_wp2
        go_ret2
        refine ⟨?_, HA.out.1⟩
        simp [e2, m1]
        try omega
    · subst h2
      have m1 : min l l = l := by omega
      clear hh
      cases back
      · go_wp2
        go_ret2
        refine ⟨?_, HA.out.1⟩
        simp [e2, m1]
        try omega
      · go_wp2
        go_ret2
        refine ⟨?_, HA.out.1⟩
        simp [e2, m1]
        try omega
end Go.Proofs.Ytmfnhdflmnmooaa
