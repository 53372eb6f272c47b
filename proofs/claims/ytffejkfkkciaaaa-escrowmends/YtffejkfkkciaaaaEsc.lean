import Derived.Test.YtffejkfkkciaaaaEsb
import Derived.Test.YtffejkfkkciaaaaBoth
import Derived.Laws.AppendOwnNone
import Derived.Deep.RegionHeld3
namespace Go.Proofs.Ytffejkfkkciaaaa
open Go.RowKit
set_option linter.unusedVariables false
set_option linter.unusedSimpArgs false
/-- The document's product. -/
theorem rtimesF (a b : F) (w : World) : Calls Try.prog 21 #[.int .u8 (a.1 : Nat), .int .u8 (b.1 : Nat)] w fun e w' => e = .returned (.int .u8 ((fm a b).1 : Nat)) ∧ w' = w := by
  have H : Hid (Calls Try.prog 32 #[.int .u8 (a.1 : Nat), .int .u8 (b.1 : Nat)] w fun e w' => e = .returned (.int .u8 ((fm a b).1 : Nat)) ∧ w' = w) := by
    have q := refTimes_ok a.1 b.1 a.2 b.2 w
    rw [both_eq a.1 b.1 a.2 b.2] at q
    exact q
  generalize (fm a b).1 = r at H ⊢
  go_enter Try.func21, Try.ntmps21
  go_wp2_with (go_at_call 32; refine H.out.mono ?_; rintro e1 w1 ⟨rfl, hw⟩; obtain rfl := hw.symm; clear hw H)
  go_ret
  exact ⟨rfl, rfl⟩
theorem one_cell (w : World) (z : Value) (e : TypeId) : ∀ (j : Nat) (u : Value), [z][j]? = some u → (w.alloc (.cells #[z] e)).cell? ((⟨w.heap.size, 0, none⟩ : Addr).add j) = some u := by
  intro j u hj
  match j, hj with
  | 0, hj => simp at hj; subst hj; simp [Addr.add]
theorem one_u8 (z : Int) : ∀ u ∈ [Value.int .u8 z], u.oneCell' = true := by intro u hu; simp at hu; subst hu; rfl
theorem fc_append (l : List F) (x : F) : fc (l ++ [x]) = fc l ++ [.int .u8 (x.1 : Nat)] := by simp [fc]
set_option maxHeartbeats 800000 in
set_option maxRecDepth 100000 in
/-- The document's powers. -/
theorem rpowers_ok (n : Nat) (hn : n ≤ 1000) (w : World) : Calls Try.prog 20 #[.int .i64 (n : Nat)] w fun e w' => Hid (∃ v, e = .returned v ∧ w'.ownsRow w.heap.size 5 1 v n (fc ((List.range n).map Em)) ∧ Below w.heap.size w w') := by
  obtain ⟨i0, hi, hz0, hz1, hz2⟩ := info_parts Try.infoB
  go_enter Try.func20, Try.ntmps20
  go_wp2
  go_loopw [3, 4, 5] (fun vs vp vi wr => ∃ (sv : Value) (k : Nat), vs = sv ∧ k ≤ n ∧ vi = .int .i64 (k : Nat) ∧ vp = .int .u8 ((Em k).1 : Nat) ∧ Hid (wr.ownsRow w.heap.size 5 1 sv k (fc ((List.range k).map Em)) ∧ Below w.heap.size w wr)) (fun _ _ vi _ => n - (intOf vi).toNat)
  case atStart => exact ⟨_, 0, rfl, by omega, rfl, (by rw [Em_zero]; rfl), World.ownsRow_nil _ _ _ _, Below.refl _ _⟩
  case round =>
    obtain ⟨sv, k, hvs, hk, rfl, rfl, HI⟩ := hrel
    obtain rfl := hvs.symm
    by_cases hlt : k < n
    · have HO : Hid (wr.ownsRow w.heap.size 5 1 sv k (fc ((List.range k).map Em)) ∧ Below w.heap.size w wr) := HI.out
      have H1 : Hid (∀ u, Calls Try.prog 21 #[.int .u8 ((Em k).1 : Nat), .int .u8 3] u fun e w' => e = .returned (.int .u8 ((Em (k + 1)).1 : Nat)) ∧ w' = u) := fun u => by
        have q := rtimesF (Em k) 3 u
        rw [← Em_one, Em_mul, Em_one] at q
        exact q
      have g1 : (k : Int) < (n : Int) := by omega
      have HE : Hid (fc ((List.range (k + 1)).map Em) = fc ((List.range k).map Em) ++ [.int .u8 ((Em k).1 : Nat)]) := by rw [List.range_succ, List.map_append, List.map_singleton]; exact fc_append _ _
      obtain ⟨ek1, HE1⟩ : ∃ e, Hid ((Em (k + 1)).1 = e) := ⟨_, rfl⟩
      rw [HE1.out] at H1
      obtain ⟨ek, HE2⟩ : ∃ e, Hid ((Em k).1 = e) := ⟨_, rfl⟩
      rw [HE2.out] at H1 HE ⊢
      clear HI
      go_wp2_with (first
        | (at_builtin; go_must (refine wpList_append_own _ rfl (.tmp 11) (.tmp 13) 25 rfl w.heap.size 5 i0 (.int .u8 0) 1 1 Try.underlying25 hi hz0 hz1 hz2 rfl (by decide) _ _ _ rfl (HO.out.1.alloc _) ⟨wr.heap.size, 0, none⟩ 1 1 [.int .u8 (ek : Nat)] rfl rfl (one_cell wr _ 5) (one_u8 _) (by unfold maxLen; omega) (by omega) (by have := HO.out.2.size; simp; omega) ?_; intro v2 w2 hown hgrow hnil; have HX : Hid (w2.ownsRow w.heap.size 5 1 v2 (k + 1) (fc ((List.range (k + 1)).map Em)) ∧ Below w.heap.size w w2) := ⟨by rw [HE.out]; exact hown, (HO.out.2.alloc HO.out.2.size _).grown hgrow (by have := HO.out.2.size; simp; omega) (fun q hq => (HO.out.1.lt q hq).1)⟩; clear hown hgrow hnil))
        | (go_at_call 21; refine (H1.out _).mono ?_; rintro e1 w5 ⟨rfl, hw⟩; obtain rfl := hw.symm; clear hw))
      go_roundw
      case rel => exact ⟨v2, k + 1, rfl, by omega, by go_num, by rw [HE1.out], HX.out⟩
      case measure => simp [intOf]; omega
    · obtain rfl : k = n := by omega
      have h1 : ¬ (k : Int) < (k : Int) := Int.lt_irrefl _
      go_wp2
      go_ret
      exact ⟨_, rfl, HI.out.1, HI.out.2⟩
end Go.Proofs.Ytffejkfkkciaaaa
