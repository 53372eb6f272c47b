import Derived.Test.YtaejoohbmdckhaaWhole
namespace Go.Proofs.Ytaejoohbmdckhaa
open Go.RowKit
set_option linter.unusedVariables false
set_option linter.unusedSimpArgs false
/-- A list, t times. -/
def rp (zs : List Int) : Nat → List Int
  | 0 => []
  | t + 1 => rp zs t ++ zs
theorem rp_length (zs : List Int) (t : Nat) : (rp zs t).length = t * zs.length := by
  induction t with
  | zero => simp [rp]
  | succ t ih => simp [rp, ih, Nat.succ_mul]
theorem rp_mem (zs : List Int) (t : Nat) : ∀ z ∈ rp zs t, z ∈ zs := by
  induction t with
  | zero => intro z hz; simp [rp] at hz
  | succ t ih =>
    intro z hz
    rw [rp, List.mem_append] at hz
    exact hz.elim (ih z) id
theorem rp_nil (t : Nat) : rp [] t = [] := by
  induction t with
  | zero => rfl
  | succ t ih => simp [rp, ih]
set_option maxHeartbeats 800000 in
set_option maxRecDepth 100000 in
theorem again_some (x : Addr) (n cap t : Nat) (zs : List Int) (w : World) (hz : Hid (zs.length = n)) (hn : n ≤ 65536) (ht : t ≤ 64)
    (h1 : Hid (∀ j u, (cellsU8 zs)[j]? = some u → w.cell? (x.add j) = some u)) :
    Calls Try.prog 12 #[.slice (some x) n cap, .int .i64 (t : Nat)] w fun e w' => ∃ v, e = .returned v ∧ w'.ownsRow w.heap.size 5 1 v (t * n) (cellsU8 (rp zs t)) ∧ Below w.heap.size w w' := by
  obtain ⟨i0, hi, hz0, hz1, hz2⟩ := info_parts Try.info5
  go_enter Try.func12, Try.ntmps12
  go_wp2
  go_loopw [5, 6] (fun v i wr => ∃ k : Nat, k ≤ t ∧ i = .int .i64 k ∧ wr.ownsRow w.heap.size 5 1 v (k * n) (cellsU8 (rp zs k)) ∧ Hid (Below w.heap.size w wr)) (fun _ i _ => t - (intOf i).toNat)
  case atStart => exact ⟨0, Nat.zero_le _, rfl, by simpa [rp, cellsU8] using World.ownsRow_nil _ _ _ _, Below.refl _ _⟩
  case round =>
    obtain ⟨k, hk, rfl, hown2, HB2⟩ := hrel
    by_cases hlt : k < t
    · have hkn : Hid (k * n + n ≤ 4194304) := by
        show k * n + n ≤ 4194304
        have := Nat.mul_le_mul (show k + 1 ≤ 64 by omega) hn
        rw [Nat.succ_mul] at this
        omega
      have hnews : Hid (∀ j u, (cellsU8 zs)[j]? = some u → wr.cell? (x.add j) = some u) := fun j u hj => by
        have h := h1.out j u hj
        rw [HB2.out.cell (p := x.add j) (World.block_lt_of_cell? w _ h)]
        exact h
      go_wp2_with (first
        | (at_builtin; go_must (refine wpList_append_own _ rfl (.tmp 12) (.tmp 13) 22 rfl w.heap.size 5 i0 (.int .u8 0) 1 1 Try.underlying22 hi hz0 hz1 hz2 rfl (by decide) _ _ _ rfl hown2 x n cap (cellsU8 zs) rfl ?_ hnews.out (cellsU8_one zs) ?_ ?_ HB2.out.size ?_)))
      · rw [cellsU8_length, hz.out, Nat.mul_one]
      · have := hkn.out; unfold maxLen; omega
      · have := hkn.out; omega
      intro v1 w1 hown hgrow hnil
      have HB3 : Hid (Below w.heap.size w w1) := HB2.out.grown hgrow HB2.out.size (fun q hq => (hown2.lt q hq).1)
      have HO3 : Hid (w1.ownsRow w.heap.size 5 1 v1 ((k + 1) * n) (cellsU8 (rp zs (k + 1)))) := by
        show w1.ownsRow w.heap.size 5 1 v1 ((k + 1) * n) (cellsU8 (rp zs (k + 1)))
        rw [rp, cellsU8_append, Nat.succ_mul]
        exact hown
      clear hown hgrow hnil hown2 HB2
      go_wp2
      exact ⟨⟨k + 1, by omega, by go_num, HO3, HB3⟩, by simp [intOf]; omega⟩
    · obtain rfl : k = t := by omega
      have HO : Hid (wr.ownsRow w.heap.size 5 1 _ (k * n) (cellsU8 (rp zs k))) := hown2
      clear hown2
      go_wp2
      go_ret
      exact ⟨_, rfl, HO, HB2⟩
set_option maxHeartbeats 800000 in
set_option maxRecDepth 100000 in
theorem again_nil (t : Nat) (w : World) (ht : t ≤ 64) :
    Calls Try.prog 12 #[.slice none 0 0, .int .i64 (t : Nat)] w fun e w' => ∃ v, e = .returned v ∧ v = .slice none 0 0 ∧ Below w.heap.size w w' := by
  obtain ⟨i0, hi, hz0, hz1, hz2⟩ := info_parts Try.info5
  go_enter Try.func12, Try.ntmps12
  go_wp2
  go_loopw [5, 6] (fun v i wr => ∃ k : Nat, k ≤ t ∧ i = .int .i64 k ∧ v = .slice none 0 0 ∧ Hid (Below w.heap.size w wr)) (fun _ i _ => t - (intOf i).toNat)
  case atStart => exact ⟨0, Nat.zero_le _, rfl, rfl, Below.refl _ _⟩
  case round =>
    obtain ⟨k, hk, rfl, rfl, HB2⟩ := hrel
    by_cases hlt : k < t
    · go_wp2_with (first
        | (at_builtin; go_must (refine wpList_append_own_none rfl (.tmp 12) (.tmp 13) 22 rfl w.heap.size 5 i0 1 Try.underlying22 hi _ 0 [] rfl (World.ownsRow_nil _ _ _ _) rfl ?_)))
      exact ⟨⟨k + 1, by omega, by go_num, rfl, HB2⟩, by simp [intOf]; omega⟩
    · obtain rfl : k = t := by omega
      go_wp2
      go_ret
      exact ⟨_, rfl, rfl, HB2⟩
theorem own_view {w : World} {B n : Nat} {v : Value} {zs : List Int} (h : w.ownsRow B 5 1 v n (cellsU8 zs)) (hn : zs.length = n) : View w v zs := by
  have hh := h
  obtain ⟨hl, h0⟩ := h
  rcases h0 with ⟨rfl, hz⟩ | ⟨g, cap, cur, rfl, h1, h2, h3, h4, h5, h6⟩
  · exact ⟨none, 0, by rw [hn, hz], by omega, by unfold maxLen; omega, fun _ => rfl, .inl (List.eq_nil_of_length_eq_zero (by omega))⟩
  · refine ⟨some ⟨g, 0, none⟩, cap, by rw [hn], by omega, h4, (fun h => by cases h), .inr ⟨g, 0, rfl, fun i hi => ?_⟩⟩
    have := hh.cells (g := g) rfl i (.int .u8 (zs.getD i 0)) (by
      simp only [cellsU8, List.getElem?_map]
      simp [List.getElem?_eq_getElem hi, List.getD])
    rw [Addr.add_lit] at this
    exact this
theorem again_any (v : Value) (zs : List Int) (t : Nat) (w : World) (hn : zs.length ≤ 65536) (ht : t ≤ 64) (h : View w v zs) :
    Calls Try.prog 12 #[v, .int .i64 (t : Nat)] w fun e w' => ∃ v', e = .returned v' ∧ View w' v' (rp zs t) ∧ Below w.heap.size w w' := by
  obtain ⟨a, c, rfl, h1, h2, h3, h4⟩ := h
  cases a with
  | none =>
    obtain rfl := h3 rfl
    have hz : zs = [] := List.eq_nil_of_length_eq_zero (by omega)
    subst hz
    refine (again_nil t w ht).mono ?_
    rintro e w' ⟨v, rfl, rfl, hb⟩
    refine ⟨_, rfl, ?_, hb⟩
    rw [rp_nil]
    exact ⟨none, 0, rfl, by simp, by unfold maxLen; omega, fun _ => rfl, .inl rfl⟩
  | some x =>
    have hc : ∀ j u, (cellsU8 zs)[j]? = some u → w.cell? (x.add j) = some u := by
      rcases h4 with rfl | ⟨b, off, he, hcell⟩
      · intro j u hu
        simp [cellsU8] at hu
      · cases he
        exact cellsU8_at zs w b off hcell
    refine (again_some x zs.length c t zs w rfl hn ht hc).mono ?_
    rintro e w' ⟨v, rfl, ho, hb⟩
    exact ⟨_, rfl, own_view ho (rp_length zs t), hb⟩
end Go.Proofs.Ytaejoohbmdckhaa
