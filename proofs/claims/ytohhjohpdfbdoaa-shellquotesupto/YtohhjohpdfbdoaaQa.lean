import Derived.Test.YtohhjohpdfbdoaaWa
import Derived.Deep.DeepMust
namespace Go.Proofs.Ytohhjohpdfbdoaa
open Go.RowKit
attribute [local go_sem ↓] Go.wp_at_zero Go.wp_at_succ
set_option linter.unusedVariables false
set_option linter.unusedSimpArgs false
def hexD (n : Nat) : Int := if n < 10 then 48 + n else 87 + n
theorem hexD_all : ∀ i : Fin 16, ((((ByteArray.mk #[48, 49, 50, 51, 52, 53, 54, 55, 56, 57, 97, 98, 99, 100, 101, 102])[i.1]'i.2).toNat : Nat) : Int) = hexD i.1 := by decide
theorem hexD_at (i : Nat) (h : i < (ByteArray.mk #[48, 49, 50, 51, 52, 53, 54, 55, 56, 57, 97, 98, 99, 100, 101, 102]).size) :
    ((((ByteArray.mk #[48, 49, 50, 51, 52, 53, 54, 55, 56, 57, 97, 98, 99, 100, 101, 102])[i]'h).toNat : Nat) : Int) = hexD i := hexD_all ⟨i, h⟩
def AllBytes (xs : List Int) : Prop := ∀ i : Nat, 0 ≤ xs.getD i 0 ∧ xs.getD i 0 < 256
def hexBytes (xs : List Int) : List Int := xs.flatMap fun z => [hexD (z / 16).toNat, hexD (z % 16).toNat]
theorem hexBytes_append (a b : List Int) : hexBytes (a ++ b) = hexBytes a ++ hexBytes b := by simp [hexBytes]
theorem hexBytes_length (a : List Int) : (hexBytes a).length = 2 * a.length := by
  induction a with
  | nil => rfl
  | cons x l ih => simp [hexBytes] at ih ⊢; omega
set_option maxHeartbeats 1600000 in
set_option maxRecDepth 100000 in
theorem rhex_core (b off n cap : Nat) (xs : List Int) (w : World) (hx : Hid (xs.length = n)) (hn : n ≤ 65536) (ax : Hid (AllBytes xs))
    (h1 : ∀ i, i < n → w.cell? ⟨b, off + i, none⟩ = some (.int .u8 (xs.getD i 0))) :
    Calls Try.prog 18 #[.slice (some ⟨b, off, none⟩) n cap] w fun e w' => e = .returned (.string (strOfNums (hexBytes xs))) ∧ Below w.heap.size w w' := by
  obtain ⟨i0, hi, hz0, hz1, hz2⟩ := info_parts info5
  have h8 : decide ((8388608 : Int) < (n : Int)) = false := by simp; omega
  go_enter Try.func18, Try.ntmps18
  go_wp2
  go_loopw [3, 4] (fun v i wr => ∃ k : Nat, k ≤ n ∧ i = .int .i64 k ∧ wr.ownsRow w.heap.size 5 1 v (2 * k) (cellsU8 (hexBytes (xs.take k))) ∧ Hid (Below w.heap.size w wr)) (fun _ i _ => n - (intOf i).toNat)
  case atStart => exact ⟨0, by omega, rfl, World.ownsRow_nil _ _ _ _, Below.refl _ _⟩
  case round =>
    obtain ⟨k, hk, rfl, hown2, HB2⟩ := hrel
    by_cases hlt : k < n
    · have g0 := h1 k hlt
      have hblk : b < w.heap.size := World.block_lt_of_cell? w _ g0
      have r0 := ax.out k
      have HT : Hid (hexBytes (xs.take (k + 1)) = hexBytes (xs.take k) ++ [hexD (xs.getD k 0 / 16).toNat, hexD (xs.getD k 0 % 16).toNat]) := by
        rw [take_snoc xs k (by rw [hx.out]; exact hlt), hexBytes_append]
        rfl
      generalize xs.getD k 0 = z at g0 r0 HT
      obtain ⟨r00, r01⟩ := r0
      have b0 : 0 ≤ z / 16 := by omega
      have b1 : z / 16 < 16 := by omega
      have b2 : 0 ≤ z % 16 := by omega
      have b3 : z % 16 < 16 := by omega
      have q0 : (0 : Int) ≤ (k : Int) := by omega
      have q1 : (k : Int) < (n : Int) := by omega
      have t1 : IntKind.u8.wrap (z.tdiv 16) = z / 16 := by rw [Int.tdiv_eq_ediv_of_nonneg r00, IntKind.wrap_u8]; omega
      have t2 : z.tmod 16 = z % 16 := Int.tmod_eq_emod_of_nonneg r00
      have hD := hexD_at
      clear h1
      go_wp2
      refine wp_region_noPanic ?_
      refine wp_region_held_drew (S := fun w' => Below w.heap.size w w') (by kernel_rfl) (HB2.out.drew) (fun _ => ?_)
      refine takeH_at 0 14 (u3) rfl rfl (by kernel_rfl) (by kernel_rfl) (by kernel_rfl) (fun _ _ _ h => h) (HB2.out.drew) (Or.inl ⟨by rfl, fun w' hS' => by go_simp⟩) ?_
      simp only [List.setIfInBounds_toArray, List.set_cons_zero, List.set_cons_succ]
      refine takeH_at 1 15 (.slice (some ⟨b, off, none⟩) n cap) rfl rfl (by kernel_rfl) (by kernel_rfl) (by kernel_rfl) (fun _ _ _ h => h) (HB2.out.drew) (Or.inl ⟨by rfl, fun w' hS' => by go_simp⟩) ?_
      simp only [List.setIfInBounds_toArray, List.set_cons_zero, List.set_cons_succ]
      refine takeH_at 2 16 (.int .i64 (k : Int)) rfl rfl (by kernel_rfl) (by kernel_rfl) (by kernel_rfl) (fun _ _ _ h => h) (HB2.out.drew) (Or.inl ⟨by rfl, fun w' hS' => by go_simp⟩) ?_
      simp only [List.setIfInBounds_toArray, List.set_cons_zero, List.set_cons_succ]
      refine takeH_at 3 17 (.pointer (some ⟨b, off + k, none⟩)) rfl rfl (by kernel_rfl) (by kernel_rfl) (by kernel_rfl) (fun _ _ _ h => h) (HB2.out.drew) (Or.inl ⟨by rfl, fun w' hS' => by go_simp⟩) ?_
      simp only [List.setIfInBounds_toArray, List.set_cons_zero, List.set_cons_succ]
      refine takeH_at 4 18 (.int .u8 (z)) rfl rfl (by kernel_rfl) (by kernel_rfl) (by kernel_rfl) (fun _ _ _ h => h) (HB2.out.drew) (Or.inl ⟨by rfl, fun w' hS' => by have g : w'.cell? ⟨b, off + k, none⟩ = some (.int .u8 z) := (hS'.cell hblk).trans g0; go_simp⟩) ?_
      simp only [List.setIfInBounds_toArray, List.set_cons_zero, List.set_cons_succ]
      refine takeH_at 5 19 (.int .u8 (z / 16)) rfl rfl (by kernel_rfl) (by kernel_rfl) (by kernel_rfl) (fun _ _ _ h => h) (HB2.out.drew) (Or.inl ⟨by rfl, fun w' hS' => by go_simp⟩) ?_
      simp only [List.setIfInBounds_toArray, List.set_cons_zero, List.set_cons_succ]
      refine takeH_at 6 20 (.int .u8 (hexD (z / 16).toNat)) rfl rfl (by kernel_rfl) (by kernel_rfl) (by kernel_rfl) (fun _ _ _ h => h) (HB2.out.drew) (Or.inl ⟨by rfl, fun w' hS' => by go_simp⟩) ?_
      simp only [List.setIfInBounds_toArray, List.set_cons_zero, List.set_cons_succ]
      refine takeH_at 7 21 (.slice (some ⟨b, off, none⟩) n cap) rfl rfl (by kernel_rfl) (by kernel_rfl) (by kernel_rfl) (fun _ _ _ h => h) (HB2.out.drew) (Or.inl ⟨by rfl, fun w' hS' => by go_simp⟩) ?_
      simp only [List.setIfInBounds_toArray, List.set_cons_zero, List.set_cons_succ]
      refine takeH_at 8 22 (.int .i64 (k : Int)) rfl rfl (by kernel_rfl) (by kernel_rfl) (by kernel_rfl) (fun _ _ _ h => h) (HB2.out.drew) (Or.inl ⟨by rfl, fun w' hS' => by go_simp⟩) ?_
      simp only [List.setIfInBounds_toArray, List.set_cons_zero, List.set_cons_succ]
      refine takeH_at 9 23 (.pointer (some ⟨b, off + k, none⟩)) rfl rfl (by kernel_rfl) (by kernel_rfl) (by kernel_rfl) (fun _ _ _ h => h) (HB2.out.drew) (Or.inl ⟨by rfl, fun w' hS' => by go_simp⟩) ?_
      simp only [List.setIfInBounds_toArray, List.set_cons_zero, List.set_cons_succ]
      refine takeH_at 10 24 (.int .u8 (z)) rfl rfl (by kernel_rfl) (by kernel_rfl) (by kernel_rfl) (fun _ _ _ h => h) (HB2.out.drew) (Or.inl ⟨by rfl, fun w' hS' => by have g : w'.cell? ⟨b, off + k, none⟩ = some (.int .u8 z) := (hS'.cell hblk).trans g0; go_simp⟩) ?_
      simp only [List.setIfInBounds_toArray, List.set_cons_zero, List.set_cons_succ]
      refine takeH_at 11 25 (.int .u8 (z % 16)) rfl rfl (by kernel_rfl) (by kernel_rfl) (by kernel_rfl) (fun _ _ _ h => h) (HB2.out.drew) (Or.inl ⟨by rfl, fun w' hS' => by go_simp⟩) ?_
      simp only [List.setIfInBounds_toArray, List.set_cons_zero, List.set_cons_succ]
      refine takeH_at 12 26 (.int .u8 (hexD (z % 16).toNat)) rfl rfl (by kernel_rfl) (by kernel_rfl) (by kernel_rfl) (fun _ _ _ h => h) (HB2.out.drew) (Or.inl ⟨by rfl, fun w' hS' => by go_simp⟩) ?_
      simp only [List.setIfInBounds_toArray, List.set_cons_zero, List.set_cons_succ]
      refine wpAnyH_ready (rs := [13]) (by kernel_rfl) (by simp) ?_
      refine AllReadyH.cons rfl (fun K hK => ?_) AllReadyH.nil
      go_simp
      refine hK.out _ _ (HB2.out.alloc HB2.out.size _).drew (fun _ => ?_)
      clear hK K
      refine wpAnyH_ready (rs := [14]) (by kernel_rfl) (by simp) ?_
      refine AllReadyH.cons rfl (fun K hK => ?_) AllReadyH.nil
      refine step_append_lies _ (by rfl) _ _ _ (by rfl) w.heap.size 5 i0 (.int .u8 0) 1 1 Try.underlying37 hi hz0 hz1 hz2 (by rfl) (by decide) _ (2 * k) (cellsU8 (hexBytes (xs.take k))) (by rfl) (hown2.alloc _).drew ⟨wr.heap.size, 0, none⟩ 2 2 (cellsU8 [hexD (z / 16).toNat, hexD (z % 16).toNat]) (by rfl) (by rfl) (World.news_of_block (heap_alloc_new wr _)) (cellsU8_one _) (by decide) (by unfold maxLen; omega) (by omega) (by have := HB2.out.size; simp; omega) (wr.heap.size + 1) (by simp) ?_
      intro g cp w2 hown3 hgrow2 hat hglt
      have hb3 : Below w.heap.size w w2 := (HB2.out.alloc HB2.out.size _).drew.grown hgrow2 (by have := HB2.out.size; simp; omega) (fun q hq => (hown2.lt q hq).1)
      refine hK.out _ _ hb3 (fun _ => ?_)
      clear hK K
      change wpAnyH _ _ _ _ _ _ _ ⟨Array.setIfInBounds _ 28 _, _⟩ _
      simp only [List.setIfInBounds_toArray, List.set_cons_zero, List.set_cons_succ]
      refine takeH_at 15 3 (.slice (some ⟨g, 0, none⟩) (2 * k + 2) cp) rfl rfl (by kernel_rfl) (by kernel_rfl) (by kernel_rfl) (fun _ _ _ h => h) (hb3) (Or.inl ⟨by rfl, fun w' hS' => by go_simp⟩) ?_
      simp only [List.setIfInBounds_toArray, List.set_cons_zero, List.set_cons_succ]
      refine wpAnyH_done (by kernel_rfl) ?_ _
      refine NoPanic.normal ?_
      have HB3 : Hid (Below w.heap.size w w2) := hb3
      have HO3 : Hid (w2.ownsRow w.heap.size 5 1 (.slice (some ⟨g, 0, none⟩) (2 * k + 2) cp) (2 * (k + 1)) (cellsU8 (hexBytes (xs.take (k + 1))))) := by
        rw [HT.out, cellsU8_append]
        exact hown3
      clear hown3 hgrow2 hat hglt hown2 HB2 hb3 hD
      go_wp2
      go_roundw
      case rel => exact ⟨k + 1, by omega, by go_num, HO3, HB3⟩
      case measure => simp [intOf]; omega
    · obtain rfl : k = n := by omega
      rw [List.take_of_length_le (by rw [hx.out]; exact Nat.le_refl _)] at hown2
      have hbk := convert_row hown2 (by rw [hexBytes_length, hx.out])
      clear hown2 hlt hk h1
      go_wp2
      go_ret
      exact ⟨rfl, HB2⟩
set_option maxRecDepth 100000 in
/-- Hex of one byte that lies in a row of its own. -/
theorem hex1_ok (b : Nat) (c : Int) (w : World) (hc0 : 0 ≤ c) (hc1 : c < 256) (h1 : w.cell? ⟨b, 0, none⟩ = some (.int .u8 c)) :
    Calls Try.prog 11 #[.slice (some ⟨b, 0, none⟩) 1 1] w fun e w' => e = .returned (.string (strOfNums [hexD (c / 16).toNat, hexD (c % 16).toNat])) ∧ Below w.heap.size w w' := by
  have h := rhex_core b 0 1 1 [c] w rfl (by omega) (fun i => by
    match i with
    | 0 => exact ⟨hc0, hc1⟩
    | i + 1 => simp) (fun i hi => by
      obtain rfl : i = 0 := by omega
      exact h1)
  go_enter Try.func11, Try.ntmps11
  go_wp2_with (go_at_call 18; refine h.mono ?_; rintro e w1 ⟨rfl, b1⟩)
  go_ret
  exact ⟨rfl, b1⟩
end Go.Proofs.Ytohhjohpdfbdoaa
