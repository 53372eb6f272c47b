import Derived.Test.YtoanndhaopgkjaaDoorPart09
namespace Go.Proofs.YtoanndhaopgkjaaDoor
open Go.RowKit
set_option linter.unusedVariables false
set_option linter.unusedSimpArgs false
set_option maxRecDepth 100000 in
/-- The document's get. -/
theorem rget_ok (b o N cp at' n : Nat) (L : List Int) (w : World) (hN : L.length = N) (h1 : at' + n ≤ N) (h8 : n ≤ 8) (hm : at' + n ≤ 4194304) (hL : Byt L) (hb : By w b o L) :
    Calls Tryd.prog 28 #[.slice (some ⟨b, o, none⟩) N cp, .int .i64 at', .int .i64 n] w fun e w' => e = .returned (.int .u64 (beN (cutL L at' n))) ∧ w = w' := by
  have HZ : Hid (Byt (cutL L at' n) ∧ (cutL L at' n).length = n) := ⟨hL.cut at' n, cutL_length (by omega)⟩
  have HB : Hid (By w b o L ∧ L.length = N) := ⟨hb, hN⟩
  have HC : Hid (∀ i, i < n → (cutL L at' n).getD i 0 = L.getD (at' + i) 0) := fun i hi => cutL_at L at' n i hi
  clear hN hL hb
  generalize cutL L at' n = zs at HZ HC
  go_enter Tryd.func28, Tryd.ntmps28
  go_wp2
  go_loop [7, 8] (fun v i => ∃ k : Nat, k ≤ n ∧ i = .int .i64 k ∧ v = .int .u64 (beN (zs.take k))) (fun _ i => n - (intOf i).toNat)
  case atStart => exact ⟨0, by omega, rfl, rfl⟩
  case round =>
    obtain ⟨k, hk, rfl, rfl⟩ := hrel
    by_cases hlt : k < n
    · have hr := beN_range zs HZ.out.1 k (by rw [HZ.out.2]; omega)
      have hr2 := beN_range zs HZ.out.1 (k + 1) (by rw [HZ.out.2]; omega)
      have hs := beN_take zs k (by rw [HZ.out.2]; omega)
      have hp : (256 : Int) ^ (k + 1) ≤ 18446744073709551616 := p256 _ (by omega)
      have hc := HB.out.1 (at' + k) (by rw [HB.out.2]; omega)
      rw [← HC.out k hlt] at hc
      have hz0 := HZ.out.1.at k
      have e0 : IntKind.i64.wrap ((at' : Int) + (k : Int)) = ((at' + k : Nat) : Int) := by rw [IntKind.wrap_i64]; omega
      generalize beN (zs.take k) = x at hr hs
      generalize zs.getD k 0 = z at hc hz0 hs
      have e1 : IntKind.u64.wrap (x * 256) = x * 256 := by rw [IntKind.wrap_u64]; omega
      have e2 : IntKind.u64.wrap (x * 256 + z) = x * 256 + z := by rw [IntKind.wrap_u64]; omega
      have e3 : IntKind.u64.wrap z = z := by rw [IntKind.wrap_u64]; omega
      have HS : Hid (beN (zs.take (k + 1)) = x * 256 + z) := hs
      clear hr hr2 hs hp
      go_wp2
      exact ⟨⟨k + 1, by omega, by simp, by rw [HS.out]⟩, by simp [intOf]; omega⟩
    · have HE : Hid (beN (zs.take k) = beN zs) := by show _ = _; rw [List.take_of_length_le (by rw [HZ.out.2]; omega)]
      go_wp2
      go_ret
      exact ⟨by rw [← HE.out]; rfl, rfl⟩
set_option maxRecDepth 100000 in
/-- The document's zeros. -/
theorem rzeros_ok (b o N cp at' en : Nat) (L : List Int) (w : World) (hN : L.length = N) (h1 : at' ≤ en) (h2 : en ≤ N) (hm : en ≤ 4194304) (hb : By w b o L) :
    Calls Tryd.prog 30 #[.slice (some ⟨b, o, none⟩) N cp, .int .i64 at', .int .i64 en] w fun e w' => e = .returned (.bool (decide (rtz (cutL L at' (en - at')) (en - at') ≤ 0))) ∧ w = w' := by
  have HB : Hid (By w b o L ∧ L.length = N) := ⟨hb, hN⟩
  have HR : Hid ((decide (rtz (cutL L at' (en - at')) (en - at') ≤ 0) = true) ↔ ∀ i, at' ≤ i → i < en → L.getD i 0 = 0) := by
    show _ ↔ _
    rw [decide_eq_true_eq, rtz_iff]
    constructor
    · intro h i hi1 hi2
      have := h (i - at') (by omega) (by omega)
      rw [cutL_at _ _ _ _ (by omega)] at this
      rw [← this]
      congr 1
      omega
    · intro h i _ hi
      rw [cutL_at _ _ _ _ hi]
      exact h _ (by omega) (by omega)
  clear hN hb
  generalize decide (rtz (cutL L at' (en - at')) (en - at') ≤ 0) = r at HR
  go_enter Tryd.func30, Tryd.ntmps30
  go_wp2
  go_loop [7] (fun i => ∃ k : Nat, at' ≤ k ∧ k ≤ en ∧ i = .int .i64 k ∧ Hid (∀ i, at' ≤ i → i < k → L.getD i 0 = 0)) (fun i => en - (intOf i).toNat)
  case atStart => exact ⟨at', Nat.le_refl _, h1, rfl, fun i h1 h2 => by omega⟩
  case round =>
    obtain ⟨k, hk1, hk2, rfl, HK⟩ := hrel
    by_cases hlt : k < en
    · have hc := HB.out.1 k (by rw [HB.out.2]; omega)
      by_cases hz : L.getD k 0 = 0
      · have HZ : Hid (L.getD k 0 = 0) := hz
        rw [hz] at hc
        clear hz
        go_wp2
        refine ⟨⟨k + 1, by omega, by omega, by simp, fun i h1 h2 => ?_⟩, by simp [intOf]; omega⟩
        by_cases e : i = k
        · subst e; exact HZ.out
        · exact HK.out i h1 (by omega)
      · have HE : Hid (r = false) := by
          show r = false
          cases r
          · rfl
          · exact absurd (HR.out.1 rfl k hk1 hlt) hz
        have d : (L.getD k 0 != 0) = true := by simpa using hz
        generalize L.getD k 0 = z at hc d
        clear hz
        go_wp2
        go_ret
        exact ⟨ret_bool' HE.out.symm, rfl⟩
    · have HE : Hid (r = true) := HR.out.2 (fun i h1 h2 => HK.out i h1 (by omega))
      go_wp2
      go_ret
      exact ⟨ret_bool' HE.out.symm, rfl⟩
/-- What the document's text answers. -/
def TxQ (zs : List Int) (e : Ending) : Prop := ∃ x : ByteArray, e = .returned (.tuple #[.string x, .bool (txtB zs)]) ∧ (txtB zs = true → x = txtS zs)
set_option maxRecDepth 100000 in
/-- The document's text. -/
theorem rtext_ok (b o N cp at' en : Nat) (L : List Int) (w : World) (hN : L.length = N) (hcp : N ≤ cp) (h1 : at' < en) (h2 : en ≤ N) (hm : en ≤ 4194304) (hb : By w b o L) :
    Calls Tryd.prog 29 #[.slice (some ⟨b, o, none⟩) N cp, .int .i64 at', .int .i64 en] w fun e w' => TxQ (cutL L at' (en - at')) e ∧ w = w' := by
  have HB : Hid (By w b o L ∧ L.length = N) := ⟨hb, hN⟩
  have HC : Hid (∀ i, i < en - at' → (cutL L at' (en - at')).getD i 0 = L.getD (at' + i) 0) := fun i hi => cutL_at L at' _ i hi
  have HZL : Hid ((cutL L at' (en - at')).length = en - at') := cutL_length (by omega)
  have HBZ : Hid (By w b (o + at') (cutL L at' (en - at'))) := hb.cut at' (en - at') (by omega)
  clear hN hb
  generalize cutL L at' (en - at') = zs at HC HZL HBZ
  have hfl := fz_le zs
  rw [HZL.out] at hfl
  obtain ⟨f, HF⟩ : ∃ f : Nat, Hid (f = fz zs) := ⟨_, rfl⟩
  rw [← HF.out] at hfl
  go_enter Tryd.func29, Tryd.ntmps29
  go_wp2
  go_loop [8] (fun i => ∃ k : Nat, k ≤ f ∧ i = .int .i64 ((at' + k : Nat) : Int)) (fun i => en - (intOf i).toNat)
  case atStart => exact ⟨0, by omega, by simp⟩
  case round =>
    obtain ⟨k, hk, rfl⟩ := hrel
    by_cases hlt : k < f
    · have hc := HB.out.1 (at' + k) (by rw [HB.out.2]; omega)
      have hz := fz_ne zs k (by rw [← HF.out]; exact hlt)
      rw [HC.out k (by omega)] at hz
      have d0 : at' + k < en := by omega
      have d : (L.getD (at' + k) 0 != 0) = true := by simpa using hz
      have e1 : IntKind.i64.wrap (((at' + k : Nat) : Int) + 1) = ((at' + (k + 1) : Nat) : Int) := by rw [IntKind.wrap_i64]; omega
      generalize L.getD (at' + k) 0 = z at hc d
      generalize hq : at' + k = q at hc d0 e1 ⊢
      have HQ : Hid (at' + k = q) := hq
      clear hz hq
      go_wp2
      exact ⟨⟨k + 1, by omega, by have := HQ.out; simp <;> omega⟩, by have := HQ.out; simp [intOf]; omega⟩
    · have hkf : k = f := by omega
      subst hkf
      have HT1 : Hid (rtz zs (en - at') ≤ k ↔ ∀ i, at' + k ≤ i → i < en → L.getD i 0 = 0) := by
        show _ ↔ _
        rw [rtz_iff]
        constructor
        · intro h i hi1 hi2
          have := h (i - at') (by omega) (by omega)
          rw [HC.out _ (by omega)] at this
          rw [← this]
          congr 1
          omega
        · intro h i hi1 hi2
          rw [HC.out i hi2]
          exact h _ (by omega) (by omega)
      have HTB : Hid (txtB zs = decide (k < en - at' ∧ rtz zs (en - at') ≤ k)) := by show _ = _; rw [txtB, HZL.out, HF.out]
      have sl := slice_lh w (some ⟨b, o, none⟩) N cp at' (at' + k) (by omega) (by omega)
      have HSL : Hid (sliced (some ⟨b, o, none⟩) at' (at' + k) cp 1 = .slice (some ⟨b, o + at', none⟩) k (cp - at')) := by
        show _ = _
        rw [sliced, if_neg (by omega), Nat.add_sub_cancel_left, Nat.mul_one, Option.map_some, Addr.add_mid]
      rw [HSL.out] at sl
      have cv := conv_by w b (o + at') k (cp - at') (zs.take k) (by simp [HZL.out]; omega) (fun i hi => by
        have hi' : i < k := by simp at hi; omega
        have := HBZ.out i (by rw [HZL.out]; omega)
        simpa [List.getD_eq_getElem?_getD, List.getElem?_take, hi'] using this)
      have HX : Hid (txtB zs = true → strB (zs.take k) = txtS zs) := fun h => by rw [txtS, if_pos h, HF.out]
      generalize strB (zs.take k) = x at cv HX
      clear HSL
      obtain ⟨q, HQ⟩ : ∃ q : Nat, Hid (q = at' + k) := ⟨_, rfl⟩
      rw [← HQ.out] at sl
      have hqe : q ≤ en := by have := HQ.out; omega
      have hqa : at' ≤ q := by have := HQ.out; omega
      rw [← HQ.out]
      have HEX : Hid (q < en → L.getD q 0 = 0) := fun h => by
        have h3 : k < zs.length := by have := HQ.out; rw [HZL.out]; omega
        have := fz_at zs (by rw [← HF.out]; exact h3)
        rw [← HF.out, HC.out k (by have := HQ.out; omega)] at this
        rw [HQ.out]
        exact this
      have HTQ : Hid ((∀ i, q ≤ i → i < en → L.getD i 0 = 0) → txtB zs = decide ((q : Int) < (en : Int))) := fun h => by
        have h2 : rtz zs (en - at') ≤ k := HT1.out.2 (fun i hi1 hi2 => h i (by rw [HQ.out]; exact hi1) hi2)
        rw [HTB.out, Bool.eq_iff_iff, decide_eq_true_eq, decide_eq_true_eq]
        have := HQ.out
        omega
      have HTN : Hid (∀ i, q ≤ i → i < en → L.getD i 0 ≠ 0 → txtB zs = false) := fun i hi1 hi2 hne => by
        rw [HTB.out]
        exact decide_eq_false (fun h => hne (HT1.out.1 h.2 i (by rw [← HQ.out]; exact hi1) hi2))
      have hc : q < en → w.cell? ⟨b, o + q, none⟩ = some (.int .u8 0) := fun h => by
        have := HB.out.1 q (by rw [HB.out.2]; omega)
        rw [HEX.out h] at this
        exact this
      clear HT1 HTB HEX HC hlt hk hfl
      by_cases hqe2 : q < en
      all_goals
        first | (have hc1 := hc hqe2) | (have hc1 : decide ((q : Int) < (en : Int)) = false := decide_eq_false (by omega))
        clear hc
        go_wp2
        go_loop [9] (fun i => ∃ j : Nat, q ≤ j ∧ j ≤ en ∧ i = .int .i64 j ∧ Hid (∀ i, q ≤ i → i < j → L.getD i 0 = 0)) (fun i => en - (intOf i).toNat)
        case atStart => exact ⟨q, Nat.le_refl _, hqe, rfl, fun i h1 h2 => by omega⟩
        case round =>
          obtain ⟨j, hj1, hj2, rfl, HJ⟩ := hrel
          by_cases hlt : j < en
          · have hcj := HB.out.1 j (by rw [HB.out.2]; omega)
            by_cases hz : L.getD j 0 = 0
            · have HZ : Hid (L.getD j 0 = 0) := hz
              rw [hz] at hcj
              clear hz
              go_wp2
              refine ⟨⟨j + 1, by omega, by omega, by simp, fun i h1 h2 => ?_⟩, by simp [intOf]; omega⟩
              by_cases e : i = j
              · subst e; exact HZ.out
              · exact HJ.out i h1 (by omega)
            · have HE : Hid (txtB zs = false) := HTN.out j hj1 hlt hz
              have d : (L.getD j 0 != 0) = true := by simpa using hz
              generalize L.getD j 0 = z at hcj d
              clear hz
              go_wp2
              go_ret2
              exact ⟨⟨⟨#[]⟩, by rw [HE.out]; rfl, fun h => by rw [HE.out] at h; cases h⟩, rfl⟩
          · have HE : Hid (txtB zs = decide ((q : Int) < (en : Int))) := HTQ.out (fun i h1 h2 => HJ.out i h1 (by omega))
            go_wp2
            go_ret2
            exact ⟨⟨x, by rw [HE.out]; first | rfl | simp [*], HX.out⟩, rfl⟩
end Go.Proofs.YtoanndhaopgkjaaDoor
