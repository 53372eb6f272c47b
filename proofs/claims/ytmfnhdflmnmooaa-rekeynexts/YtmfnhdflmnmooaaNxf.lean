import Derived.Test.YtmfnhdflmnmooaaNxe
import Derived.Laws.AppendOwnNone
import Derived.Deep.DeepMust
namespace Go.Proofs.Ytmfnhdflmnmooaa
open Go.RowKit
set_option linter.unusedVariables false
set_option linter.unusedSimpArgs false
set_option maxHeartbeats 1600000 in
set_option maxRecDepth 100000 in
theorem numbered_ok (p : Option Addr) (n c : Nat) (EL : List Epo) (num : Int) (hen : Hid (EL.length = n)) (hn0 : n ≤ 1954687338268) (w : World) (e1 : Hid (RV epoL 5 w p EL)) : Calls Try.prog 67 #[.slice p n c, .int .u64 num] w fun e w' => (∃ a c', e = .returned (.slice a (epN EL num n) c')) ∧ Below w.heap.size w w' := by
  obtain ⟨i0, hi, hz0, hz1, hz2⟩ := info_parts info49
  go_enter Try.func67, Try.ntmps67
  go_wp2
  go_loopw [5, 10] (fun v i wr => ∃ k : Nat, k ≤ n ∧ i = .int .i64 k ∧ (∃ xs, wr.ownsRow w.heap.size 38 5 v (epN EL num k) xs) ∧ Hid (Below w.heap.size w wr)) (fun _ i _ => n - (intOf i).toNat)
  case atStart => exact ⟨0, Nat.zero_le _, rfl, ⟨[], World.ownsRow_nil _ _ _ _⟩, Below.refl _ _⟩
  case round =>
    obtain ⟨k, hk, rfl, ⟨xs, hown⟩, HB⟩ := hrel
    have hle := epN_le EL num k
    by_cases hlt : k < n
    · obtain ⟨x, hx⟩ : ∃ x, EL[k]? = some x := ⟨EL[k]'(by have := hen.out; omega), List.getElem?_eq_getElem _⟩
      obtain ⟨ba, oa, hpa, hba, ca⟩ := (e1.out.below HB.out).get hx
      subst hpa
      have a0 : wr.cell? ⟨ba, oa + k * 5, none⟩ = some (.int .u64 x.n) := by have := ca 0 _ rfl; simpa using this
      have a1 : wr.cell? ⟨ba, oa + k * 5 + 1, none⟩ = some (.string x.a) := by have := ca 1 _ rfl; simpa using this
      have a2 : wr.cell? ⟨ba, oa + k * 5 + 2, none⟩ = some (.string x.b) := by have := ca 2 _ rfl; simpa using this
      have a3 : wr.cell? ⟨ba, oa + k * 5 + 3, none⟩ = some (.string x.c) := by have := ca 3 _ rfl; simpa using this
      have a4 : wr.cell? ⟨ba, oa + k * 5 + 4, none⟩ = some (.string x.d) := by have := ca 4 _ rfl; simpa using this
      by_cases hq : x.n = num
      · have q1 : (x.n == num) = true := by simp [hq]
        have HE : Hid (epN EL num (k + 1) = epN EL num k + 1) := by show epN EL num (k + 1) = _; rw [epN, hx]; simp [hq]
        clear hx ca hq
        go_wp2_with (first
          | (at_builtin; go_must (refine wpList_append_own _ rfl (.tmp 18) (.tmp 20) 28 rfl w.heap.size 38 i0 _ 5 72 Try.underlying28 hi hz0 hz1 hz2 rfl (by decide) _ _ _ rfl ((hown.alloc _).alloc _) ⟨wr.heap.size + 1, 0, none⟩ 1 1 (epoL x) rfl rfl ?_ ?_ ?_ ?_ ?_ ?_)))
        · intro j u hj
          have h := rangeAt_new (wr.alloc (.cells #[.int .u64 x.n, .string x.a, .string x.b, .string x.c, .string x.d] 38)) #[.int .u64 x.n, .string x.a, .string x.b, .string x.c, .string x.d] 38 j u (by simpa [epoL] using hj)
          rw [show (wr.alloc (.cells #[.int .u64 x.n, .string x.a, .string x.b, .string x.c, .string x.d] 38)).heap.size = wr.heap.size + 1 by simp] at h
          rw [Addr.add_lit]
          simpa using h
        · intro u hu
          simp [epoL] at hu
          rcases hu with rfl | rfl | rfl | rfl | rfl <;> rfl
        · unfold maxLen; omega
        · omega
        · have := HB.out.size; simp; omega
        intro v1 w1 ho hgrow hnil
        have HB3 : Hid (Below w.heap.size w w1) := ((HB.out.alloc HB.out.size _).alloc (by have := HB.out.size; simp; omega) _).grown hgrow (by have := HB.out.size; simp; omega) (fun q hq => (hown.lt q hq).1)
        have HO3 : Hid (∃ xs, w1.ownsRow w.heap.size 38 5 v1 (epN EL num (k + 1)) xs) := ⟨_, by rw [HE.out]; exact ho⟩
        clear ho hgrow hnil hown HB
        go_wp2
        exact ⟨⟨k + 1, by omega, by go_num, HO3.out, HB3⟩, by simp [intOf]; omega⟩
      · have q1 : (x.n == num) = false := by simp [hq]
        have HE : Hid (epN EL num (k + 1) = epN EL num k) := by show epN EL num (k + 1) = _; rw [epN, hx]; simp [hq]
        have HO3 : Hid (∀ o, ∃ xs, (wr.alloc o).ownsRow w.heap.size 38 5 _ (epN EL num (k + 1)) xs) := fun o => ⟨_, by rw [HE.out]; exact hown.alloc o⟩
        clear hx ca hown
        go_wp2
        exact ⟨⟨k + 1, by omega, by go_num, HO3.out _, HB.out.alloc HB.out.size _⟩, by simp [intOf]; omega⟩
    · obtain rfl : k = n := by omega
      obtain ⟨hl, hcase⟩ := hown
      rcases hcase with ⟨rfl, hc⟩ | ⟨g, c', cur, rfl, _⟩
      · go_wp2
        go_ret
        exact ⟨⟨none, 0, congrArg (fun z => Ending.returned (.slice none z 0)) hc.symm⟩, HB.out⟩
      · go_wp2
        go_ret
        exact ⟨⟨_, _, rfl⟩, HB.out⟩
end Go.Proofs.Ytmfnhdflmnmooaa
