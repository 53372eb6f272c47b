import Derived.Test.YtmfnhdflmnmooaaSmd
namespace Go.Proofs.Ytmfnhdflmnmooaa
open Go.RowKit
set_option linter.unusedVariables false
set_option linter.unusedSimpArgs false
set_option maxRecDepth 100000 in
set_option maxHeartbeats 3200000 in
theorem sameT_ok (p1 p2 : Option Addr) (n c1 c2 : Nat) (T T2 : List Tk) (htn : Hid (T.length = n)) (htn2 : Hid (T2.length = n)) (hn : n ≤ 1000000000000000) (w : World) (t1 : Hid (RV tkL 4 w p1 T)) (t2 : Hid (RV tkL 4 w p2 T2)) (tE : Hid (TkE w T T2)) :
    Calls Try.prog 32 #[.slice p1 n c1, .slice p2 n c2] w fun e w' => e = .returned (.bool true) ∧ Below w.heap.size w w' := by
  go_enter Try.func32, Try.ntmps32
  go_wp2
  go_loopw [5] (fun i wr => ∃ k : Nat, k ≤ n ∧ i = .int .i64 k ∧ Hid (Below w.heap.size w wr)) (fun i _ => n - (intOf i).toNat)
  case atStart => exact ⟨0, Nat.zero_le _, rfl, Below.refl _ _⟩
  case round =>
    obtain ⟨k, hk, rfl, HS⟩ := hrel
    by_cases hlt : k < n
    · obtain ⟨x, hx⟩ : ∃ x, T[k]? = some x := ⟨T[k]'(by have := htn.out; omega), List.getElem?_eq_getElem _⟩
      obtain ⟨y, hy⟩ : ∃ y, T2[k]? = some y := ⟨T2[k]'(by have := htn2.out; omega), List.getElem?_eq_getElem _⟩
      obtain ⟨ba, oa, hpa, hba, ca⟩ := (t1.out.below HS.out).get hx
      obtain ⟨bb, ob, hpb, hbb, cb⟩ := (t2.out.below HS.out).get hy
      obtain ⟨q1, q2, q3, zs, v1, v2⟩ := tE.out k x y hx hy
      subst hpa hpb
      have a0 : wr.cell? ⟨ba, oa + k * 4, none⟩ = some (.int .i64 x.n) := by have := ca 0 _ rfl; simpa using this
      have a1 : wr.cell? ⟨ba, oa + k * 4 + 1, none⟩ = some (.string x.s) := by have := ca 1 _ rfl; simpa using this
      have a2 : wr.cell? ⟨ba, oa + k * 4 + 2, none⟩ = some (.slice x.p x.l x.c) := by have := ca 2 _ rfl; simpa using this
      have a3 : wr.cell? ⟨ba, oa + k * 4 + 3, none⟩ = some (.string x.z) := by have := ca 3 _ rfl; simpa using this
      have c0 : wr.cell? ⟨bb, ob + k * 4, none⟩ = some (.int .i64 y.n) := by have := cb 0 _ rfl; simpa using this
      have c1 : wr.cell? ⟨bb, ob + k * 4 + 1, none⟩ = some (.string y.s) := by have := cb 1 _ rfl; simpa using this
      have c2 : wr.cell? ⟨bb, ob + k * 4 + 2, none⟩ = some (.slice y.p y.l y.c) := by have := cb 2 _ rfl; simpa using this
      have c3 : wr.cell? ⟨bb, ob + k * 4 + 3, none⟩ = some (.string y.z) := by have := cb 3 _ rfl; simpa using this
      rw [← q1] at c0
      rw [← q2] at c1
      rw [← q3] at c3
      have H57 : ∀ m, Calls Try.prog 57 #[.slice x.p x.l x.c, .slice y.p y.l y.c] (wr.drewN m) fun e w' => e = .returned (.bool true) ∧ ∃ j, w' = (wr.drewN m).drewN j := fun m =>
        (sameI_any _ _ zs zs (wr.drewN m) (v1.kept (w' := wr.drewN m) (fun k hk => HS.out.block k hk)) (v2.kept (w' := wr.drewN m) (fun k hk => HS.out.block k hk))).mono fun e w' h => by simpa using h
      clear ca cb hx hy t1 t2 tE q1 q2 q3 v1 v2
      go_upto_region 6 with fail
      go_quiet (first | (go_at_call 57; refine Calls.quiet_of (H57 _)))
      go_wp2
      exact ⟨⟨k + 1, by omega, by go_num, HS.out.trans ⟨rfl, rfl, rfl, Nat.le_refl _, fun _ _ => rfl⟩⟩, by simp [intOf]; omega⟩
    · go_wp2
      go_ret
      exact ⟨rfl, HS.out⟩
end Go.Proofs.Ytmfnhdflmnmooaa
