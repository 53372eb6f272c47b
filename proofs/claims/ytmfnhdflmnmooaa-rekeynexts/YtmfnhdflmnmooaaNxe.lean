import Derived.Test.YtmfnhdflmnmooaaTwa
namespace Go.Proofs.Ytmfnhdflmnmooaa
open Go.RowKit
set_option linter.unusedVariables false
set_option linter.unusedSimpArgs false
/-- How many of the first k epochs have a number. -/
def epN (EL : List Epo) (num : Int) : Nat → Nat
  | 0 => 0
  | k + 1 => epN EL num k + (if (EL[k]?.map (·.n)) = some num then 1 else 0)
theorem epN_le (EL : List Epo) (num : Int) (k : Nat) : epN EL num k ≤ k := by
  induction k with
  | zero => simp [epN]
  | succ k ih => simp only [epN]; split <;> omega
set_option maxHeartbeats 1600000 in
set_option maxRecDepth 100000 in
theorem epochs_ok (m : Mt) (EL : List Epo) (num : Int) (hen : Hid (EL.length = m.en)) (hn0 : m.en ≤ 1000000000000000) (w : World) (e1 : Hid (RV epoL 5 w m.ep EL)) : Calls Try.prog 29 #[.agg (mtC m), .int .u64 num] w fun e w' => e = .returned (.int .i64 (epN EL num m.en : Nat)) ∧ Below w.heap.size w w' := by
  have HX : Hid (Bx (w.alloc (.cells (mtC m) 36)) w.heap.size m ∧ Below w.heap.size w (w.alloc (.cells (mtC m) 36))) := ⟨World.alloc_heap_new w _, below_alloc1 _ _⟩
  go_enter Try.func29, Try.ntmps29
  go_upto_region 1 with fail
  generalize w.alloc (.cells (mtC m) 36) = w0 at HX ⊢
  go_wp2
  go_loopw [5, 6] (fun s i wr => ∃ k : Nat, k ≤ m.en ∧ i = .int .i64 k ∧ s = .int .i64 (epN EL num k : Nat) ∧ wr = w0) (fun _ i _ => m.en - (intOf i).toNat)
  case atStart => exact ⟨0, Nat.zero_le _, rfl, rfl, rfl⟩
  case round =>
    obtain ⟨k, hk, rfl, rfl, hw⟩ := hrel
    obtain rfl := hw.symm
    have y12 := HX.out.1.c 12 (.slice m.ep m.en m.ec) rfl
    have hle := epN_le EL num k
    obtain ⟨A, hA⟩ : ∃ A, Hid (A = epN EL num k) := ⟨_, rfl⟩
    rw [← hA.out] at hle ⊢
    by_cases hlt : k < m.en
    · obtain ⟨x, hx⟩ : ∃ x, EL[k]? = some x := ⟨EL[k]'(by have := hen.out; omega), List.getElem?_eq_getElem _⟩
      obtain ⟨ba, oa, hpa, hba, ca⟩ := (e1.out.below HX.out.2).get hx
      rw [hpa] at y12
      have a0 : w0.cell? ⟨ba, oa + k * 5, none⟩ = some (.int .u64 x.n) := by have := ca 0 _ rfl; simpa using this
      by_cases hq : x.n = num
      · have q1 : (x.n == num) = true := by simp [hq]
        have HE : Hid (epN EL num (k + 1) = A + 1) := by show epN EL num (k + 1) = A + 1; rw [epN, hx, hA.out]; simp [hq]
        clear hx ca hq hpa
        go_wp2
        exact ⟨⟨k + 1, by omega, by go_num, by rw [HE.out]; go_num, trivial⟩, by simp [intOf]; omega⟩
      · have q1 : (x.n == num) = false := by simp [hq]
        have HE : Hid (epN EL num (k + 1) = A) := by show epN EL num (k + 1) = A; rw [epN, hx, hA.out]; simp [hq]
        clear hx ca hpa
        go_wp2
        exact ⟨⟨k + 1, by omega, by go_num, by rw [HE.out], trivial⟩, by simp [intOf]; omega⟩
    · obtain rfl : k = m.en := by omega
      go_wp2
      go_ret
      refine ⟨?_, HX.out.2⟩
      rw [hA.out]
      rfl
end Go.Proofs.Ytmfnhdflmnmooaa
