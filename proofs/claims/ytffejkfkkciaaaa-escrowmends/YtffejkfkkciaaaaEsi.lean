import Derived.Test.YtffejkfkkciaaaaEsh
import Derived.Test.YtffejkfkkciaaaaNum
namespace Go.Proofs.Ytffejkfkkciaaaa
open Go.RowKit
set_option linter.unusedVariables false
set_option linter.unusedSimpArgs false
/-- What a row says beside its values. -/
def setN (l : List F) : Nat := (l.getD 0 0).1 * 256 + (l.getD 1 0).1
def tds (l : List F) : List Value := [.int .u16 (setN l : Nat), .int .i64 ((l.getD 2 0).1 : Nat), .int .i64 ((l.getD 3 0).1 : Nat), .int .i64 ((l.getD 4 0).1 : Nat)]
theorem bx_there {w : World} {b : Nat} {t : TypeId} {cs : List Value} {n : Nat} (h : Bx w b t cs) (hn : cs.length = n) : w.there b 0 n := by
  intro j hj
  rw [Nat.zero_add]
  refine ⟨?_, h.frozen j⟩
  rw [h.cell j _ (List.getElem?_eq_getElem (by rw [hn]; exact hj))]
  rfl
theorem num_ok (b off c n : Nat) (l : List F) (w : World) (hn : l.length = n) (h2 : 2 ≤ n) (h : Rw w b off l) : Calls Try.prog 30 #[.slice (some ⟨b, off, none⟩) n c] w fun e w' => e = .returned (.int .u16 (setN l : Nat)) ∧ ∃ k, w' = w.drewN k := by
  have c0 : w.cell? ⟨b, off + 0, none⟩ = some (.int .u8 ((l.getD 0 0).1 : Nat)) := h 0 (by omega)
  have c1 : w.cell? ⟨b, off + 1, none⟩ = some (.int .u8 ((l.getD 1 0).1 : Nat)) := h 1 (by omega)
  exact number_ok b off n c ((l.getD 0 0).1 : Nat) ((l.getD 1 0).1 : Nat) w h2 (by omega) (by have := (l.getD 0 0).2; omega) (by omega) (by have := (l.getD 1 0).2; omega) c0 c1
set_option maxHeartbeats 1600000 in
set_option maxRecDepth 100000 in
theorem told_ok (b off c n : Nat) (l : List F) (w : World) (hn : l.length = n) (h5 : 5 ≤ n) (h : Rw w b off l) : Calls Try.prog 16 #[.slice (some ⟨b, off, none⟩) n c] w fun e w' => Hid (e = .returned (.agg (tds l).toArray) ∧ Below w.heap.size w w') := by
  obtain ⟨M, HMM⟩ : ∃ M, Hid (w.heap.size = M) := ⟨_, rfl⟩
  obtain ⟨w1, hw1⟩ : ∃ w1, w1 = w.alloc (.cells #[.int .u16 0, .int .i64 0, .int .i64 0, .int .i64 0] 24) := ⟨_, rfl⟩
  have HB1 : Hid (Bx w1 M 24 [.int .u16 0, .int .i64 0, .int .i64 0, .int .i64 0] ∧ Below M w w1 ∧ Rw w1 b off l) := by
    rw [hw1, ← HMM.out]
    exact ⟨Bx.new w 24 _, (Below.refl _ _).alloc (Nat.le_refl _) _, h.below ((Below.refl _ _).alloc (Nat.le_refl _) _)⟩
  have c2 : w1.drew.cell? ⟨b, off + 2, none⟩ = some (.int .u8 ((l.getD 2 0).1 : Nat)) := HB1.out.2.2 2 (by omega)
  have c3 : w1.drew.cell? ⟨b, off + 3, none⟩ = some (.int .u8 ((l.getD 3 0).1 : Nat)) := HB1.out.2.2 3 (by omega)
  have c4 : w1.drew.cell? ⟨b, off + 4, none⟩ = some (.int .u8 ((l.getD 4 0).1 : Nat)) := HB1.out.2.2 4 (by omega)
  have H30 : Hid (∀ u, Rw u b off l → Calls Try.prog 30 #[.slice (some ⟨b, off, none⟩) n c] u fun e w' => e = .returned (.int .u16 (setN l : Nat)) ∧ ∃ k, w' = u.drewN k) := fun u hu => num_ok b off c n l u hn (by omega) hu
  obtain ⟨TD, HTD⟩ : ∃ q, Hid (tds l = q) := ⟨_, rfl⟩
  have HTL : Hid (TD.length = 4 ∧ ∀ v ∈ TD, v.oneCell' = true) := by rw [← HTD.out]; refine ⟨rfl, fun v hv => ?_⟩; simp [tds] at hv; rcases hv with rfl | rfl | rfl | rfl <;> rfl
  have HTV : Hid (TD = [.int .u16 (setN l : Nat), .int .i64 ((l.getD 2 0).1 : Nat), .int .i64 ((l.getD 3 0).1 : Nat), .int .i64 ((l.getD 4 0).1 : Nat)]) := HTD.out.symm
  rw [HTD.out]
  obtain ⟨sn, HSN⟩ : ∃ q, Hid (setN l = q) := ⟨_, rfl⟩
  rw [HSN.out] at H30 HTV
  obtain ⟨v2, HV2⟩ : ∃ q : Nat, Hid ((l.getD 2 0).1 = q) := ⟨_, rfl⟩
  obtain ⟨v3, HV3⟩ : ∃ q : Nat, Hid ((l.getD 3 0).1 = q) := ⟨_, rfl⟩
  obtain ⟨v4, HV4⟩ : ∃ q : Nat, Hid ((l.getD 4 0).1 = q) := ⟨_, rfl⟩
  rw [HV2.out] at c2 HTV
  rw [HV3.out] at c3 HTV
  rw [HV4.out] at c4 HTV
  have x2 : IntKind.i64.wrap (v2 : Int) = (v2 : Int) := by have := (l.getD 2 0).2; have := HV2.out; rw [IntKind.wrap_i64]; omega
  have x3 : IntKind.i64.wrap (v3 : Int) = (v3 : Int) := by have := (l.getD 3 0).2; have := HV3.out; rw [IntKind.wrap_i64]; omega
  have x4 : IntKind.i64.wrap (v4 : Int) = (v4 : Int) := by have := (l.getD 4 0).2; have := HV4.out; rw [IntKind.wrap_i64]; omega
  have g2 : (2 : Int) < (n : Int) := by omega
  have g3 : (3 : Int) < (n : Int) := by omega
  have g4 : (4 : Int) < (n : Int) := by omega
  have hi7 : (Try.prog.info? 24).map (·.size) = some TD.length := by rw [HTL.out.1]; kernel_rfl
  have hS0 : w1.drew.cell? ⟨b, off + 2, none⟩ = some (.int .u8 (v2 : Nat)) ∧ w1.drew.cell? ⟨b, off + 3, none⟩ = some (.int .u8 (v3 : Nat)) ∧ w1.drew.cell? ⟨b, off + 4, none⟩ = some (.int .u8 (v4 : Nat)) := ⟨c2, c3, c4⟩
  clear c2 c3 c4 h hn h5
  go_enter Try.func16, Try.ntmps16
  go_upto_region 1 with fail
  rw [← hw1, HMM.out]
  clear hw1
  refine wp_region_noPanic ?_
  refine wp_region_till (fun u => u.cell? ⟨b, off + 2, none⟩ = some (.int .u8 (v2 : Nat)) ∧ u.cell? ⟨b, off + 3, none⟩ = some (.int .u8 (v3 : Nat)) ∧ u.cell? ⟨b, off + 4, none⟩ = some (.int .u8 (v4 : Nat))) 15 (by kernel_rfl) (by decide) (by decide +kernel) (by decide +kernel) (by decide +kernel) (fun inv => ?_)
  refine till_at 0 3 (.slice (some ⟨b, off, none⟩) n c) inv rfl rfl (by decide) (by decide +kernel) (by decide +kernel) (fun _ _ _ h => h) hS0 (Or.inl ⟨by rfl, fun w' hS' => by obtain ⟨k1, k2, k3⟩ := hS'; go_simp⟩) (fun inv' => ?_)
  clear inv; have inv := inv'; clear inv'
  try simp only [List.setIfInBounds_toArray, List.set_cons_zero, List.set_cons_succ]
  refine till_at 2 5 (.slice (some ⟨b, off, none⟩) n c) inv rfl rfl (by decide) (by decide +kernel) (by decide +kernel) (fun _ _ _ h => h) hS0 (Or.inl ⟨by rfl, fun w' hS' => by obtain ⟨k1, k2, k3⟩ := hS'; go_simp⟩) (fun inv' => ?_)
  clear inv; have inv := inv'; clear inv'
  try simp only [List.setIfInBounds_toArray, List.set_cons_zero, List.set_cons_succ]
  refine till_at 3 6 (.pointer (some ⟨b, off + 2, none⟩)) inv rfl rfl (by decide) (by decide +kernel) (by decide +kernel) (fun _ _ _ h => h) hS0 (Or.inl ⟨by rfl, fun w' hS' => by obtain ⟨k1, k2, k3⟩ := hS'; go_simp⟩) (fun inv' => ?_)
  clear inv; have inv := inv'; clear inv'
  try simp only [List.setIfInBounds_toArray, List.set_cons_zero, List.set_cons_succ]
  refine till_at 4 7 (.int .u8 (v2 : Nat)) inv rfl rfl (by decide) (by decide +kernel) (by decide +kernel) (fun _ _ _ h => h) hS0 (Or.inl ⟨by rfl, fun w' hS' => by obtain ⟨k1, k2, k3⟩ := hS'; go_simp⟩) (fun inv' => ?_)
  clear inv; have inv := inv'; clear inv'
  try simp only [List.setIfInBounds_toArray, List.set_cons_zero, List.set_cons_succ]
  refine till_at 5 8 (.int .i64 (v2 : Nat)) inv rfl rfl (by decide) (by decide +kernel) (by decide +kernel) (fun _ _ _ h => h) hS0 (Or.inl ⟨by rfl, fun w' hS' => by obtain ⟨k1, k2, k3⟩ := hS'; go_simp⟩) (fun inv' => ?_)
  clear inv; have inv := inv'; clear inv'
  try simp only [List.setIfInBounds_toArray, List.set_cons_zero, List.set_cons_succ]
  refine till_at 6 9 (.slice (some ⟨b, off, none⟩) n c) inv rfl rfl (by decide) (by decide +kernel) (by decide +kernel) (fun _ _ _ h => h) hS0 (Or.inl ⟨by rfl, fun w' hS' => by obtain ⟨k1, k2, k3⟩ := hS'; go_simp⟩) (fun inv' => ?_)
  clear inv; have inv := inv'; clear inv'
  try simp only [List.setIfInBounds_toArray, List.set_cons_zero, List.set_cons_succ]
  refine till_at 7 10 (.pointer (some ⟨b, off + 3, none⟩)) inv rfl rfl (by decide) (by decide +kernel) (by decide +kernel) (fun _ _ _ h => h) hS0 (Or.inl ⟨by rfl, fun w' hS' => by obtain ⟨k1, k2, k3⟩ := hS'; go_simp⟩) (fun inv' => ?_)
  clear inv; have inv := inv'; clear inv'
  try simp only [List.setIfInBounds_toArray, List.set_cons_zero, List.set_cons_succ]
  refine till_at 8 11 (.int .u8 (v3 : Nat)) inv rfl rfl (by decide) (by decide +kernel) (by decide +kernel) (fun _ _ _ h => h) hS0 (Or.inl ⟨by rfl, fun w' hS' => by obtain ⟨k1, k2, k3⟩ := hS'; go_simp⟩) (fun inv' => ?_)
  clear inv; have inv := inv'; clear inv'
  try simp only [List.setIfInBounds_toArray, List.set_cons_zero, List.set_cons_succ]
  refine till_at 9 12 (.int .i64 (v3 : Nat)) inv rfl rfl (by decide) (by decide +kernel) (by decide +kernel) (fun _ _ _ h => h) hS0 (Or.inl ⟨by rfl, fun w' hS' => by obtain ⟨k1, k2, k3⟩ := hS'; go_simp⟩) (fun inv' => ?_)
  clear inv; have inv := inv'; clear inv'
  try simp only [List.setIfInBounds_toArray, List.set_cons_zero, List.set_cons_succ]
  refine till_at 10 13 (.slice (some ⟨b, off, none⟩) n c) inv rfl rfl (by decide) (by decide +kernel) (by decide +kernel) (fun _ _ _ h => h) hS0 (Or.inl ⟨by rfl, fun w' hS' => by obtain ⟨k1, k2, k3⟩ := hS'; go_simp⟩) (fun inv' => ?_)
  clear inv; have inv := inv'; clear inv'
  try simp only [List.setIfInBounds_toArray, List.set_cons_zero, List.set_cons_succ]
  refine till_at 11 14 (.pointer (some ⟨b, off + 4, none⟩)) inv rfl rfl (by decide) (by decide +kernel) (by decide +kernel) (fun _ _ _ h => h) hS0 (Or.inl ⟨by rfl, fun w' hS' => by obtain ⟨k1, k2, k3⟩ := hS'; go_simp⟩) (fun inv' => ?_)
  clear inv; have inv := inv'; clear inv'
  try simp only [List.setIfInBounds_toArray, List.set_cons_zero, List.set_cons_succ]
  refine till_at 12 15 (.int .u8 (v4 : Nat)) inv rfl rfl (by decide) (by decide +kernel) (by decide +kernel) (fun _ _ _ h => h) hS0 (Or.inl ⟨by rfl, fun w' hS' => by obtain ⟨k1, k2, k3⟩ := hS'; go_simp⟩) (fun inv' => ?_)
  clear inv; have inv := inv'; clear inv'
  try simp only [List.setIfInBounds_toArray, List.set_cons_zero, List.set_cons_succ]
  refine till_at 13 16 (.int .i64 (v4 : Nat)) inv rfl rfl (by decide) (by decide +kernel) (by decide +kernel) (fun _ _ _ h => h) hS0 (Or.inl ⟨by rfl, fun w' hS' => by obtain ⟨k1, k2, k3⟩ := hS'; go_simp⟩) (fun inv' => ?_)
  clear inv; have inv := inv'; clear inv'
  try simp only [List.setIfInBounds_toArray, List.set_cons_zero, List.set_cons_succ]
  refine till_head (i := 1) inv (by decide +kernel) (by decide) rfl (fun KK hK => ?_)
  go_simp
  refine (H30.out w1.drew (show Rw w1.drew b off l from HB1.out.2.2)).mono ?_
  rintro e7 w7 ⟨rfl, kk, hk7⟩
  have HB7 : Hid (Bx w7 M 24 [.int .u16 0, .int .i64 0, .int .i64 0, .int .i64 0] ∧ Below M w w7) := by rw [hk7]; exact ⟨HB1.out.1, HB1.out.2.1.trans ⟨rfl, rfl, rfl, Nat.le_refl _, fun _ _ => rfl⟩⟩
  have hS7 : w7.cell? ⟨b, off + 2, none⟩ = some (.int .u8 (v2 : Nat)) ∧ w7.cell? ⟨b, off + 3, none⟩ = some (.int .u8 (v3 : Nat)) ∧ w7.cell? ⟨b, off + 4, none⟩ = some (.int .u8 (v4 : Nat)) := by rw [hk7]; exact hS0
  clear hk7
  go_wp2_with fail
  refine hK.out _ _ (hS7) (fun inv' => ?_)
  clear hK KK inv; have inv := inv'; clear inv'
  try simp only [List.setIfInBounds_toArray, List.set_cons_zero, List.set_cons_succ]
  refine till_at 14 17 (.agg TD.toArray) inv rfl rfl (by decide) (by decide +kernel) (by decide +kernel) (fun _ _ _ h => h) hS7 (Or.inl ⟨by rfl, fun w' hS' => by rw [HTV.out]; go_simp⟩) (fun inv' => ?_)
  clear inv; have inv := inv'; clear inv'
  try simp only [List.setIfInBounds_toArray, List.set_cons_zero, List.set_cons_succ]
  refine till_tail (i := 15) (by decide +kernel) (by decide) rfl (fun KK hK => ?_)
  rw [if_pos (by rfl)]
  refine wp_store_mid 24 (.tmp 2) (.tmp 17) rfl M 0 TD.toArray rfl rfl (by rw [List.size_toArray, HTL.out.1]; exact bx_there HB7.out.1 rfl) (by rw [List.size_toArray]; exact hi7) (all_oneCell_toArray HTL.out.2) ?_
  refine hK.out _ _ ?_
  clear hK KK
  try simp only [List.setIfInBounds_toArray, List.set_cons_zero, List.set_cons_succ]
  refine till_done (by decide +kernel) ?_ _
  refine NoPanic.normal ?_
  have HB9 : Hid (Bx (w7.setCells M 0 TD.toArray.toList) M 24 TD ∧ w7.grownBy (w7.setCells M 0 TD.toArray.toList) (some M)) := ⟨HB7.out.1.store TD (by rw [HTL.out.1]; rfl), setCells_gb M TD 0 w7⟩
  obtain ⟨u9, hu9⟩ : ∃ u9, u9 = w7.setCells M 0 TD.toArray.toList := ⟨_, rfl⟩
  rw [← hu9] at HB9 ⊢
  clear hu9 hS0 hS7 inv
  go_wp2
  refine ret_array (b := M) TD rfl rfl HB9.out.1.range Try.underlying24 rfl hi7 ⟨rfl, ?_⟩
  have hf : Below M w u9 := HB7.out.2.trans (below_gb HB9.out.2 (Nat.le_of_lt HB7.out.1.lt) (Nat.le_refl _))
  first | exact hf | (rw [HMM.out]; exact hf)
end Go.Proofs.Ytffejkfkkciaaaa
