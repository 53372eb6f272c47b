import Derived.Test.YtmfnhdflmnmooaaPart01
import Derived.Laws.AppendOwnNone
import Derived.Deep.DeepMust
namespace Go.Proofs.Ytmfnhdflmnmooaa
open Go.RowKit
set_option linter.unusedVariables false
set_option linter.unusedSimpArgs false
/-- How many of the first k epochs have a number. -/
def epN (EL : List Epo) (num : Int) : Nat → Nat
  | 0 => 0
  | k + 1 => epN EL num k + (if (EL[k]?.map (·.n)) = some num then 1 else 0)
theorem epN_le (EL : List Epo) (num : Int) (k : Nat) : epN EL num k ≤ k := by
  induction k with
  | zero => simp [epN]
  | succ k ih => simp only [epN]; split <;> omega
set_option maxHeartbeats 1600000 in
set_option maxRecDepth 100000 in
theorem epochs_ok (m : Mt) (EL : List Epo) (num : Int) (hen : Hid (EL.length = m.en)) (hn0 : m.en ≤ 1000000000000000) (w : World) (e1 : Hid (RV epoL 5 w m.ep EL)) : Calls Try.prog 29 #[.agg (mtC m), .int .u64 num] w fun e w' => e = .returned (.int .i64 (epN EL num m.en : Nat)) ∧ Below w.heap.size w w' := by
  have HX : Hid (Bx (w.alloc (.cells (mtC m) 36)) w.heap.size m ∧ Below w.heap.size w (w.alloc (.cells (mtC m) 36))) := ⟨World.alloc_heap_new w _, below_alloc1 _ _⟩
  go_enter Try.func29, Try.ntmps29
  go_upto_region 1 with fail
  generalize w.alloc (.cells (mtC m) 36) = w0 at HX ⊢
  go_wp2
  go_loopw [5, 6] (fun s i wr => ∃ k : Nat, k ≤ m.en ∧ i = .int .i64 k ∧ s = .int .i64 (epN EL num k : Nat) ∧ wr = w0) (fun _ i _ => m.en - (intOf i).toNat)
  case atStart => exact ⟨0, Nat.zero_le _, rfl, rfl, rfl⟩
  case round =>
    obtain ⟨k, hk, rfl, rfl, hw⟩ := hrel
    obtain rfl := hw.symm
    have y12 := HX.out.1.c 12 (.slice m.ep m.en m.ec) rfl
    have hle := epN_le EL num k
    obtain ⟨A, hA⟩ : ∃ A, Hid (A = epN EL num k) := ⟨_, rfl⟩
    rw [← hA.out] at hle ⊢
    by_cases hlt : k < m.en
    · obtain ⟨x, hx⟩ : ∃ x, EL[k]? = some x := ⟨EL[k]'(by have := hen.out; omega), List.getElem?_eq_getElem _⟩
      obtain ⟨ba, oa, hpa, hba, ca⟩ := (e1.out.below HX.out.2).get hx
      rw [hpa] at y12
      have a0 : w0.cell? ⟨ba, oa + k * 5, none⟩ = some (.int .u64 x.n) := by have := ca 0 _ rfl; simpa using this
      by_cases hq : x.n = num
      · have q1 : (x.n == num) = true := by simp [hq]
        have HE : Hid (epN EL num (k + 1) = A + 1) := by show epN EL num (k + 1) = A + 1; rw [epN, hx, hA.out]; simp [hq]
        clear hx ca hq hpa
        go_wp2
        exact ⟨⟨k + 1, by omega, by go_num, by rw [HE.out]; go_num, trivial⟩, by simp [intOf]; omega⟩
      · have q1 : (x.n == num) = false := by simp [hq]
        have HE : Hid (epN EL num (k + 1) = A) := by show epN EL num (k + 1) = A; rw [epN, hx, hA.out]; simp [hq]
        clear hx ca hpa
        go_wp2
        exact ⟨⟨k + 1, by omega, by go_num, by rw [HE.out], trivial⟩, by simp [intOf]; omega⟩
    · obtain rfl : k = m.en := by omega
      go_wp2
      go_ret
      refine ⟨?_, HX.out.2⟩
      rw [hA.out]
      rfl
end Go.Proofs.Ytmfnhdflmnmooaa
namespace Go.Proofs.Ytmfnhdflmnmooaa
open Go.RowKit
set_option linter.unusedVariables false
set_option linter.unusedSimpArgs false
set_option maxHeartbeats 1600000 in
set_option maxRecDepth 100000 in
theorem numbered_ok (p : Option Addr) (n c : Nat) (EL : List Epo) (num : Int) (hen : Hid (EL.length = n)) (hn0 : n ≤ 1954687338268) (w : World) (e1 : Hid (RV epoL 5 w p EL)) : Calls Try.prog 67 #[.slice p n c, .int .u64 num] w fun e w' => (∃ a c', e = .returned (.slice a (epN EL num n) c')) ∧ Below w.heap.size w w' := by
  obtain ⟨i0, hi, hz0, hz1, hz2⟩ := info_parts info49
  go_enter Try.func67, Try.ntmps67
  go_wp2
  go_loopw [5, 10] (fun v i wr => ∃ k : Nat, k ≤ n ∧ i = .int .i64 k ∧ (∃ xs, wr.ownsRow w.heap.size 38 5 v (epN EL num k) xs) ∧ Hid (Below w.heap.size w wr)) (fun _ i _ => n - (intOf i).toNat)
  case atStart => exact ⟨0, Nat.zero_le _, rfl, ⟨[], World.ownsRow_nil _ _ _ _⟩, Below.refl _ _⟩
  case round =>
    obtain ⟨k, hk, rfl, ⟨xs, hown⟩, HB⟩ := hrel
    have hle := epN_le EL num k
    by_cases hlt : k < n
    · obtain ⟨x, hx⟩ : ∃ x, EL[k]? = some x := ⟨EL[k]'(by have := hen.out; omega), List.getElem?_eq_getElem _⟩
      obtain ⟨ba, oa, hpa, hba, ca⟩ := (e1.out.below HB.out).get hx
      subst hpa
      have a0 : wr.cell? ⟨ba, oa + k * 5, none⟩ = some (.int .u64 x.n) := by have := ca 0 _ rfl; simpa using this
      have a1 : wr.cell? ⟨ba, oa + k * 5 + 1, none⟩ = some (.string x.a) := by have := ca 1 _ rfl; simpa using this
      have a2 : wr.cell? ⟨ba, oa + k * 5 + 2, none⟩ = some (.string x.b) := by have := ca 2 _ rfl; simpa using this
      have a3 : wr.cell? ⟨ba, oa + k * 5 + 3, none⟩ = some (.string x.c) := by have := ca 3 _ rfl; simpa using this
      have a4 : wr.cell? ⟨ba, oa + k * 5 + 4, none⟩ = some (.string x.d) := by have := ca 4 _ rfl; simpa using this
      by_cases hq : x.n = num
      · have q1 : (x.n == num) = true := by simp [hq]
        have HE : Hid (epN EL num (k + 1) = epN EL num k + 1) := by show epN EL num (k + 1) = _; rw [epN, hx]; simp [hq]
        clear hx ca hq
        go_wp2_with (first
          | (at_builtin; go_must (refine wpList_append_own _ rfl (.tmp 18) (.tmp 20) 28 rfl w.heap.size 38 i0 _ 5 72 Try.underlying28 hi hz0 hz1 hz2 rfl (by decide) _ _ _ rfl ((hown.alloc _).alloc _) ⟨wr.heap.size + 1, 0, none⟩ 1 1 (epoL x) rfl rfl ?_ ?_ ?_ ?_ ?_ ?_)))
        · intro j u hj
          have h := rangeAt_new (wr.alloc (.cells #[.int .u64 x.n, .string x.a, .string x.b, .string x.c, .string x.d] 38)) #[.int .u64 x.n, .string x.a, .string x.b, .string x.c, .string x.d] 38 j u (by simpa [epoL] using hj)
          rw [show (wr.alloc (.cells #[.int .u64 x.n, .string x.a, .string x.b, .string x.c, .string x.d] 38)).heap.size = wr.heap.size + 1 by simp] at h
          rw [Addr.add_lit]
          simpa using h
        · intro u hu
          simp [epoL] at hu
          rcases hu with rfl | rfl | rfl | rfl | rfl <;> rfl
        · unfold maxLen; omega
        · omega
        · have := HB.out.size; simp; omega
        intro v1 w1 ho hgrow hnil
        have HB3 : Hid (Below w.heap.size w w1) := ((HB.out.alloc HB.out.size _).alloc (by have := HB.out.size; simp; omega) _).grown hgrow (by have := HB.out.size; simp; omega) (fun q hq => (hown.lt q hq).1)
        have HO3 : Hid (∃ xs, w1.ownsRow w.heap.size 38 5 v1 (epN EL num (k + 1)) xs) := ⟨_, by rw [HE.out]; exact ho⟩
        clear ho hgrow hnil hown HB
        go_wp2
        exact ⟨⟨k + 1, by omega, by go_num, HO3.out, HB3⟩, by simp [intOf]; omega⟩
      · have q1 : (x.n == num) = false := by simp [hq]
        have HE : Hid (epN EL num (k + 1) = epN EL num k) := by show epN EL num (k + 1) = _; rw [epN, hx]; simp [hq]
        have HO3 : Hid (∀ o, ∃ xs, (wr.alloc o).ownsRow w.heap.size 38 5 _ (epN EL num (k + 1)) xs) := fun o => ⟨_, by rw [HE.out]; exact hown.alloc o⟩
        clear hx ca hown
        go_wp2
        exact ⟨⟨k + 1, by omega, by go_num, HO3.out _, HB.out.alloc HB.out.size _⟩, by simp [intOf]; omega⟩
    · obtain rfl : k = n := by omega
      obtain ⟨hl, hcase⟩ := hown
      rcases hcase with ⟨rfl, hc⟩ | ⟨g, c', cur, rfl, _⟩
      · go_wp2
        go_ret
        exact ⟨⟨none, 0, congrArg (fun z => Ending.returned (.slice none z 0)) hc.symm⟩, HB.out⟩
      · go_wp2
        go_ret
        exact ⟨⟨_, _, rfl⟩, HB.out⟩
end Go.Proofs.Ytmfnhdflmnmooaa
namespace Go.Proofs.Ytmfnhdflmnmooaa
open Go.RowKit
set_option linter.unusedVariables false
set_option linter.unusedSimpArgs false
set_option maxHeartbeats 1600000 in
set_option maxRecDepth 100000 in
theorem only_ok (p : Option Addr) (n c : Nat) (EL : List Epo) (num : Int) (hen : Hid (EL.length = n)) (hn0 : n ≤ 1954687338268) (w : World) (e1 : Hid (RV epoL 5 w p EL)) : Calls Try.prog 47 #[.slice p n c, .int .u64 num] w fun e w' => e = .returned (.bool (decide (epN EL num n = 1))) ∧ Below w.heap.size w w' := by
  have HC : Hid (Calls Try.prog 67 #[.slice p n c, .int .u64 num] w fun e w' => (∃ a c', e = .returned (.slice a (epN EL num n) c')) ∧ Below w.heap.size w w') := numbered_ok p n c EL num hen hn0 w e1
  have hle := epN_le EL num n
  obtain ⟨A, hA⟩ : ∃ A, Hid (A = epN EL num n) := ⟨_, rfl⟩
  rw [← hA.out] at HC hle ⊢
  go_enter Try.func47, Try.ntmps47
  go_wp2_with (go_at_call 67; refine HC.out.mono ?_; rintro e5 w5 ⟨⟨a5, c5, rfl⟩, hb5⟩)
  go_ret
  refine ⟨?_, hb5⟩
  congr 2
  by_cases h : A = 1
  · subst h; rfl
  · have h1 : ((A : Int) == 1) = false := by simp; omega
    simp [h]
    try omega
set_option maxHeartbeats 1600000 in
set_option maxRecDepth 100000 in
theorem step_off (on : Bool) (fr to : Int) (back : Bool) (mode : Int) (hot done : Nat) (ao az : Int) (cnt : Int) (sum : ByteArray) (n : Nat) (w : World) : Calls Try.prog 64 #[.int .u64 (n : Nat), .agg (roA on fr to back mode hot done ao az false cnt sum)] w fun e w' => e = .returned (.bool (decide (cnt = 0) && sum.toList.isEmpty)) ∧ Below w.heap.size w w' := by
  have HA : Hid (Below w.heap.size w (w.alloc (.cells (roA on fr to back mode hot done ao az false cnt sum) 33)) ∧ (w.alloc (.cells (roA on fr to back mode hot done ao az false cnt sum) 33)).cell? ⟨w.heap.size, 9, none⟩ = some (.bool false) ∧ (w.alloc (.cells (roA on fr to back mode hot done ao az false cnt sum) 33)).cell? ⟨w.heap.size, 10, none⟩ = some (.int .u64 cnt) ∧ (w.alloc (.cells (roA on fr to back mode hot done ao az false cnt sum) 33)).cell? ⟨w.heap.size, 11, none⟩ = some (.string sum)) :=
    ⟨below_alloc1 _ _, rangeAt_new w _ 33 9 _ rfl, rangeAt_new w _ 33 10 _ rfl, rangeAt_new w _ 33 11 _ rfl⟩
  go_enter Try.func64, Try.ntmps64
  go_upto_region 1 with fail
  generalize w.alloc (.cells (roA on fr to back mode hot done ao az false cnt sum) 33) = w0 at HA ⊢
  obtain ⟨_, c9, c10, c11⟩ := HA.out
  generalize roA on fr to back mode hot done ao az false cnt sum = RA at ⊢
  by_cases hcn : cnt = 0
  · have q0 : (cnt == 0) = true := by simp [hcn]
    have HF : Hid ((decide (cnt = 0) && sum.toList.isEmpty) = sum.toList.isEmpty) := by show _ = _; simp [hcn]
    clear hcn
    go_wp2
    go_ret
    exact ⟨congrArg (fun b => Ending.returned (Value.bool b)) HF.out.symm, HA.out.1⟩
  · have q0 : (cnt == 0) = false := by simp [hcn]
    have HF : Hid ((decide (cnt = 0) && sum.toList.isEmpty) = false) := by show _ = _; simp [hcn]
    clear hcn
    go_wp2
    go_ret
    exact ⟨congrArg (fun b => Ending.returned (Value.bool b)) HF.out.symm, HA.out.1⟩
end Go.Proofs.Ytmfnhdflmnmooaa
namespace Go.Proofs.Ytmfnhdflmnmooaa
open Go.RowKit
set_option linter.unusedVariables false
set_option linter.unusedSimpArgs false
set_option maxHeartbeats 1600000 in
set_option maxRecDepth 100000 in
theorem step_on (on : Bool) (fr to : Int) (back : Bool) (mode : Int) (hot done : Nat) (ao az : Int) (cnt : Int) (sum : ByteArray) (n : Nat) (hn : n ≤ 4294967296) (hd : done ≤ n) (hs : sum.size ≤ 9223372036854775807) (w : World) : Calls Try.prog 64 #[.int .u64 (n : Nat), .agg (roA on fr to back mode hot done ao az true cnt sum)] w fun e w' => e = .returned (.bool (decide (0 < min hot (n - done)) && decide (cnt = ((min hot (n - done) : Nat) : Int)) && decide (sum.size = 32))) ∧ Below w.heap.size w w' := by
  obtain ⟨RA, hRA⟩ : ∃ RA, Hid (RA = roA on fr to back mode hot done ao az true cnt sum) := ⟨_, rfl⟩
  have HC : Hid (∀ u, ∃ x : Int, Calls Try.prog 38 #[.int .u64 (n : Nat), .agg RA] u fun e w' => e = .returned (.tuple #[.int .u64 x, .int .u64 ((min hot (n - done) : Nat) : Int)]) ∧ Below u.heap.size u w') := fun u => ⟨_, by rw [hRA.out]; exact hotz_ok on fr to back mode hot done ao az true cnt sum n hn hd u⟩
  have HA : Hid (Below w.heap.size w (w.alloc (.cells RA 33)) ∧ (w.alloc (.cells RA 33)).cell? ⟨w.heap.size, 9, none⟩ = some (.bool true) ∧ (w.alloc (.cells RA 33)).rangeAt w.heap.size 0 RA.toList ∧ RA.toList.length = 12 ∧ RA.toList[10]? = some (.int .u64 cnt) ∧ RA.toList[11]? = some (.string sum)) := by
    rw [hRA.out]
    exact ⟨below_alloc1 _ _, rangeAt_new w _ 33 9 _ rfl, fun j v hv => by rw [Nat.zero_add]; exact rangeAt_new w _ 33 j v (by simpa using hv), rfl, rfl, rfl⟩
  rw [← hRA.out]
  clear hRA
  generalize min hot (n - done) = M at HC ⊢
  go_enter Try.func64, Try.ntmps64
  go_upto_region 1 with fail
  generalize w.alloc (.cells RA 33) = w0 at HA ⊢
  have c9 := HA.out.2.1
  obtain ⟨x, hx⟩ := HC.out w0
  have HX : Hid (Calls Try.prog 38 #[.int .u64 (n : Nat), .agg RA] w0 fun e w' => e = .returned (.tuple #[.int .u64 x, .int .u64 (M : Int)]) ∧ Below w0.heap.size w0 w') := hx
  clear hx
  go_upto_region 4 with (first
    | (refine wpList_load_mid (by rfl) 33 (.tmp 3) (by rfl) w.heap.size 0 (by rfl) RA.toList _ HA.out.2.2.1 Try.underlying33 rfl (by rw [HA.out.2.2.2.1]; kernel_rfl) ?_)
    | (go_at_call 38; refine HX.out.mono ?_; rintro e5 w5 ⟨rfl, hb5⟩))
  have hlt : w.heap.size < w0.heap.size := lt_of_cell c9
  have c10 : w5.cell? ⟨w.heap.size, 10, none⟩ = some (.int .u64 cnt) := by
    have h := HA.out.2.2.1 10 _ HA.out.2.2.2.2.1
    exact (hb5.cell (p := ⟨w.heap.size, 10, none⟩) hlt).trans (by simpa using h)
  have c11 : w5.cell? ⟨w.heap.size, 11, none⟩ = some (.string sum) := by
    have h := HA.out.2.2.1 11 _ HA.out.2.2.2.2.2
    exact (hb5.cell (p := ⟨w.heap.size, 11, none⟩) hlt).trans (by simpa using h)
  have HB : Hid (Below w.heap.size w w5) := HA.out.1.trans (hb5.mono HA.out.1.size)
  clear hb5 HA HX HC c9
  by_cases m0 : 0 < M
  · have d0 : decide ((0 : Int) < (M : Int)) = true := by simp; omega
    have d0' : decide (0 < M) = true := by simp; omega
    by_cases m1 : cnt = (M : Int)
    · have q1 : (cnt == (M : Int)) = true := by simp [m1]
      have HF : Hid ((decide (0 < M) && decide (cnt = (M : Int)) && decide (sum.size = 32)) = ((sum.size : Int) == 32)) := by
        show _ = _
        rw [d0', decide_eq_true m1]
        by_cases h : sum.size = 32
        · simp [h]
        · have : ((sum.size : Int) == 32) = false := by simp; omega
          simp [h, this]
      clear m1
      go_wp2
      go_ret
      exact ⟨congrArg (fun b => Ending.returned (Value.bool b)) HF.out.symm, HB.out⟩
    · have q1 : (cnt == (M : Int)) = false := by simp [m1]
      have HF : Hid ((decide (0 < M) && decide (cnt = (M : Int)) && decide (sum.size = 32)) = false) := by show _ = _; simp [m1]
      clear m1
      go_wp2
      go_ret
      exact ⟨congrArg (fun b => Ending.returned (Value.bool b)) HF.out.symm, HB.out⟩
  · have d0 : decide ((0 : Int) < (M : Int)) = false := by simp; omega
    have d0' : decide (0 < M) = false := by simp; omega
    have HF : Hid ((decide (0 < M) && decide (cnt = (M : Int)) && decide (sum.size = 32)) = false) := by show _ = _; simp [d0']
    go_wp2
    go_ret
    exact ⟨congrArg (fun b => Ending.returned (Value.bool b)) HF.out.symm, HB.out⟩
end Go.Proofs.Ytmfnhdflmnmooaa
