import Derived.Test.YtmfnhdflmnmooaaNxg
namespace Go.Proofs.Ytmfnhdflmnmooaa
open Go.RowKit
set_option linter.unusedVariables false
set_option linter.unusedSimpArgs false
set_option maxHeartbeats 1600000 in
set_option maxRecDepth 100000 in
theorem step_on (on : Bool) (fr to : Int) (back : Bool) (mode : Int) (hot done : Nat) (ao az : Int) (cnt : Int) (sum : ByteArray) (n : Nat) (hn : n ≤ 4294967296) (hd : done ≤ n) (hs : sum.size ≤ 9223372036854775807) (w : World) : Calls Try.prog 64 #[.int .u64 (n : Nat), .agg (roA on fr to back mode hot done ao az true cnt sum)] w fun e w' => e = .returned (.bool (decide (0 < min hot (n - done)) && decide (cnt = ((min hot (n - done) : Nat) : Int)) && decide (sum.size = 32))) ∧ Below w.heap.size w w' := by
  obtain ⟨RA, hRA⟩ : ∃ RA, Hid (RA = roA on fr to back mode hot done ao az true cnt sum) := ⟨_, rfl⟩
  have HC : Hid (∀ u, ∃ x : Int, Calls Try.prog 38 #[.int .u64 (n : Nat), .agg RA] u fun e w' => e = .returned (.tuple #[.int .u64 x, .int .u64 ((min hot (n - done) : Nat) : Int)]) ∧ Below u.heap.size u w') := fun u => ⟨_, by rw [hRA.out]; exact hotz_ok on fr to back mode hot done ao az true cnt sum n hn hd u⟩
  have HA : Hid (Below w.heap.size w (w.alloc (.cells RA 33)) ∧ (w.alloc (.cells RA 33)).cell? ⟨w.heap.size, 9, none⟩ = some (.bool true) ∧ (w.alloc (.cells RA 33)).rangeAt w.heap.size 0 RA.toList ∧ RA.toList.length = 12 ∧ RA.toList[10]? = some (.int .u64 cnt) ∧ RA.toList[11]? = some (.string sum)) := by
    rw [hRA.out]
    exact ⟨below_alloc1 _ _, rangeAt_new w _ 33 9 _ rfl, fun j v hv => by rw [Nat.zero_add]; exact rangeAt_new w _ 33 j v (by simpa using hv), rfl, rfl, rfl⟩
  rw [← hRA.out]
  clear hRA
  generalize min hot (n - done) = M at HC ⊢
  go_enter Try.func64, Try.ntmps64
  go_upto_region 1 with fail
  generalize w.alloc (.cells RA 33) = w0 at HA ⊢
  have c9 := HA.out.2.1
  obtain ⟨x, hx⟩ := HC.out w0
  have HX : Hid (Calls Try.prog 38 #[.int .u64 (n : Nat), .agg RA] w0 fun e w' => e = .returned (.tuple #[.int .u64 x, .int .u64 (M : Int)]) ∧ Below w0.heap.size w0 w') := hx
  clear hx
  go_upto_region 4 with (first
    | (refine wpList_load_mid (by rfl) 33 (.tmp 3) (by rfl) w.heap.size 0 (by rfl) RA.toList _ HA.out.2.2.1 Try.underlying33 rfl (by rw [HA.out.2.2.2.1]; kernel_rfl) ?_)
    | (go_at_call 38; refine HX.out.mono ?_; rintro e5 w5 ⟨rfl, hb5⟩))
  have hlt : w.heap.size < w0.heap.size := lt_of_cell c9
  have c10 : w5.cell? ⟨w.heap.size, 10, none⟩ = some (.int .u64 cnt) := by
    have h := HA.out.2.2.1 10 _ HA.out.2.2.2.2.1
    exact (hb5.cell (p := ⟨w.heap.size, 10, none⟩) hlt).trans (by simpa using h)
  have c11 : w5.cell? ⟨w.heap.size, 11, none⟩ = some (.string sum) := by
    have h := HA.out.2.2.1 11 _ HA.out.2.2.2.2.2
    exact (hb5.cell (p := ⟨w.heap.size, 11, none⟩) hlt).trans (by simpa using h)
  have HB : Hid (Below w.heap.size w w5) := HA.out.1.trans (hb5.mono HA.out.1.size)
  clear hb5 HA HX HC c9
  by_cases m0 : 0 < M
  · have d0 : decide ((0 : Int) < (M : Int)) = true := by simp; omega
    have d0' : decide (0 < M) = true := by simp; omega
    by_cases m1 : cnt = (M : Int)
    · have q1 : (cnt == (M : Int)) = true := by simp [m1]
      have HF : Hid ((decide (0 < M) && decide (cnt = (M : Int)) && decide (sum.size = 32)) = ((sum.size : Int) == 32)) := by
        show _ = _
        rw [d0', decide_eq_true m1]
        by_cases h : sum.size = 32
        · simp [h]
        · have : ((sum.size : Int) == 32) = false := by simp; omega
          simp [h, this]
      clear m1
      go_wp2
      go_ret
      exact ⟨congrArg (fun b => Ending.returned (Value.bool b)) HF.out.symm, HB.out⟩
    · have q1 : (cnt == (M : Int)) = false := by simp [m1]
      have HF : Hid ((decide (0 < M) && decide (cnt = (M : Int)) && decide (sum.size = 32)) = false) := by show _ = _; simp [m1]
      clear m1
      go_wp2
      go_ret
      exact ⟨congrArg (fun b => Ending.returned (Value.bool b)) HF.out.symm, HB.out⟩
  · have d0 : decide ((0 : Int) < (M : Int)) = false := by simp; omega
    have d0' : decide (0 < M) = false := by simp; omega
    have HF : Hid ((decide (0 < M) && decide (cnt = (M : Int)) && decide (sum.size = 32)) = false) := by show _ = _; simp [d0']
    go_wp2
    go_ret
    exact ⟨congrArg (fun b => Ending.returned (Value.bool b)) HF.out.symm, HB.out⟩
end Go.Proofs.Ytmfnhdflmnmooaa
