import Derived.Test.YtmfnhdflmnmooaaNxf
import Derived.Test.YtmfnhdflmnmooaaNxb
namespace Go.Proofs.Ytmfnhdflmnmooaa
open Go.RowKit
set_option linter.unusedVariables false
set_option linter.unusedSimpArgs false
set_option maxHeartbeats 1600000 in
set_option maxRecDepth 100000 in
theorem only_ok (p : Option Addr) (n c : Nat) (EL : List Epo) (num : Int) (hen : Hid (EL.length = n)) (hn0 : n ≤ 1954687338268) (w : World) (e1 : Hid (RV epoL 5 w p EL)) : Calls Try.prog 47 #[.slice p n c, .int .u64 num] w fun e w' => e = .returned (.bool (decide (epN EL num n = 1))) ∧ Below w.heap.size w w' := by
  have HC : Hid (Calls Try.prog 67 #[.slice p n c, .int .u64 num] w fun e w' => (∃ a c', e = .returned (.slice a (epN EL num n) c')) ∧ Below w.heap.size w w') := numbered_ok p n c EL num hen hn0 w e1
  have hle := epN_le EL num n
  obtain ⟨A, hA⟩ : ∃ A, Hid (A = epN EL num n) := ⟨_, rfl⟩
  rw [← hA.out] at HC hle ⊢
  go_enter Try.func47, Try.ntmps47
  go_wp2_with (go_at_call 67; refine HC.out.mono ?_; rintro e5 w5 ⟨⟨a5, c5, rfl⟩, hb5⟩)
  go_ret
  refine ⟨?_, hb5⟩
  congr 2
  by_cases h : A = 1
  · subst h; rfl
  · have h1 : ((A : Int) == 1) = false := by simp; omega
    simp [h]
    try omega
set_option maxHeartbeats 1600000 in
set_option maxRecDepth 100000 in
theorem step_off (on : Bool) (fr to : Int) (back : Bool) (mode : Int) (hot done : Nat) (ao az : Int) (cnt : Int) (sum : ByteArray) (n : Nat) (w : World) : Calls Try.prog 64 #[.int .u64 (n : Nat), .agg (roA on fr to back mode hot done ao az false cnt sum)] w fun e w' => e = .returned (.bool (decide (cnt = 0) && sum.toList.isEmpty)) ∧ Below w.heap.size w w' := by
  have HA : Hid (Below w.heap.size w (w.alloc (.cells (roA on fr to back mode hot done ao az false cnt sum) 33)) ∧ (w.alloc (.cells (roA on fr to back mode hot done ao az false cnt sum) 33)).cell? ⟨w.heap.size, 9, none⟩ = some (.bool false) ∧ (w.alloc (.cells (roA on fr to back mode hot done ao az false cnt sum) 33)).cell? ⟨w.heap.size, 10, none⟩ = some (.int .u64 cnt) ∧ (w.alloc (.cells (roA on fr to back mode hot done ao az false cnt sum) 33)).cell? ⟨w.heap.size, 11, none⟩ = some (.string sum)) :=
    ⟨below_alloc1 _ _, rangeAt_new w _ 33 9 _ rfl, rangeAt_new w _ 33 10 _ rfl, rangeAt_new w _ 33 11 _ rfl⟩
  go_enter Try.func64, Try.ntmps64
  go_upto_region 1 with fail
  generalize w.alloc (.cells (roA on fr to back mode hot done ao az false cnt sum) 33) = w0 at HA ⊢
  obtain ⟨_, c9, c10, c11⟩ := HA.out
  generalize roA on fr to back mode hot done ao az false cnt sum = RA at ⊢
  by_cases hcn : cnt = 0
  · have q0 : (cnt == 0) = true := by simp [hcn]
    have HF : Hid ((decide (cnt = 0) && sum.toList.isEmpty) = sum.toList.isEmpty) := by show _ = _; simp [hcn]
    clear hcn
    go_wp2
    go_ret
    exact ⟨congrArg (fun b => Ending.returned (Value.bool b)) HF.out.symm, HA.out.1⟩
  · have q0 : (cnt == 0) = false := by simp [hcn]
    have HF : Hid ((decide (cnt = 0) && sum.toList.isEmpty) = false) := by show _ = _; simp [hcn]
    clear hcn
    go_wp2
    go_ret
    exact ⟨congrArg (fun b => Ending.returned (Value.bool b)) HF.out.symm, HA.out.1⟩
end Go.Proofs.Ytmfnhdflmnmooaa
