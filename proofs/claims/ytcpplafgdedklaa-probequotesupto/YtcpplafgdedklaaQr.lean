import Derived.Test.YtcpplafgdedklaaQt
import Derived.Test.YtcpplafgdedklaaTake
namespace Go.Proofs.Ytcpplafgdedklaa
open Go.RowKit
attribute [local go_sem ↓] Go.wp_at_zero Go.wp_at_succ
set_option linter.unusedVariables false

set_option maxHeartbeats 3200000 in
set_option maxRecDepth 100000 in
theorem rquote_ok (s : ByteArray) (n : Nat) (w : World) (hs : Hid (s.size = n)) (hn : n ≤ 1048576) :
    Calls Try.prog 6 #[.string s] w fun e w' => e = .returned (.string (quoted s)) ∧ Below w.heap.size w w' := by
  obtain ⟨i0, hi, hz0, hz1, hz2⟩ := info_parts info5
  have hsz : s.size = n := hs.out
  go_enter Try.func6, Try.ntmps6
  go_wp2
  have hown : (w.alloc (.cells #[.int .u8 34] 5)).ownsRow w.heap.size 5 1 (.slice (some ⟨w.heap.size, 0, none⟩) 1 1) 1 (cellsU8 (qK s 0)) := World.ownsRow_lit w #[.int .u8 34] 1 (Nat.le_refl _) (by decide) rfl
  have HB : Hid (Below w.heap.size w (w.alloc (.cells #[.int .u8 34] 5))) := (Below.refl _ w).alloc (Nat.le_refl _) _
  go_loopw [3, 4] (fun v i wr => ∃ k : Nat, k ≤ n ∧ i = .int .i64 k ∧ wr.ownsRow w.heap.size 5 1 v (qK s k).length (cellsU8 (qK s k)) ∧ Hid (Below w.heap.size w wr)) (fun _ i _ => n - (intOf i).toNat)
  case atStart => exact ⟨0, by omega, rfl, hown, HB⟩
  case round =>
    obtain ⟨k, hk, rfl, hown2, HB2⟩ := hrel
    clear hown HB
    have hle := qK_len s k (by omega)
    have hpos := qK_pos s k
    obtain ⟨L, hL⟩ : ∃ L, L = (qK s k).length := ⟨_, rfl⟩
    rw [← hL] at hle hpos hown2
    have HL : Hid (L = (qK s k).length) := hL
    clear hL
    by_cases hlt : k < n
    · have hks : k < s.size := by omega
      obtain ⟨z, hz⟩ : ∃ c : Int, c = (nums s).getD k 0 := ⟨_, rfl⟩
      have hr := nums_range s k
      rw [← hz] at hr
      obtain ⟨hb1, hb2⟩ := hr
      have hcs : ((s[k]'hks).toNat : Int) = z := by rw [hz, nums_at s k hks]
      have HZ : Hid (z = (nums s).getD k 0) := hz
      clear hz
      have ha : bits .and .u8 z 15 = z % 16 := u8_and15 _ hb1 hb2
      have hm1 : z % 16 < 16 := by omega
      have hm0 : 0 ≤ z % 16 := by omega
      have t1 : IntKind.u8.wrap (z.tdiv 16) = z / 16 := by rw [Int.tdiv_eq_ediv_of_nonneg hb1, IntKind.wrap_u8]; omega
      have t2 : z.tmod 16 = z % 16 := Int.tmod_eq_emod_of_nonneg hb1
      have q4 : z / 16 < 16 := by omega
      have q5 : 0 ≤ z / 16 := by omega
      by_cases he : qe z
      · have HE : Hid (qe z) := he
        rcases qe_cases z he with h1 | ⟨h1, h2⟩ | ⟨h1, h2, h3⟩ | ⟨h1, h2, h3, h4⟩
        all_goals
          clear he
          go_wp2
          (try clear h4); (try clear h3); (try clear h2); clear h1
          have hD := hexD_at
          refine wp_region_noPanic ?_
          refine wp_region_held_drew (S := fun w' => Below w.heap.size w w') (by kernel_rfl) (HB2.out.drew) (fun _ => ?_)
          refine takeH_at 0 30 (u3) rfl rfl (by kernel_rfl) (by kernel_rfl) (by kernel_rfl) (fun _ _ _ h => h) (HB2.out.drew) (Or.inl ⟨by rfl, fun w' hS' => by go_simp⟩) ?_
          simp only [List.setIfInBounds_toArray, List.set_cons_zero, List.set_cons_succ]
          refine takeH_at 1 31 (.int .u8 z) rfl rfl (by kernel_rfl) (by kernel_rfl) (by kernel_rfl) (fun _ _ _ h => h) (HB2.out.drew) (Or.inl ⟨by rfl, fun w' hS' => by go_simp⟩) ?_
          simp only [List.setIfInBounds_toArray, List.set_cons_zero, List.set_cons_succ]
          refine takeH_at 2 32 (.int .u8 (z / 16)) rfl rfl (by kernel_rfl) (by kernel_rfl) (by kernel_rfl) (fun _ _ _ h => h) (HB2.out.drew) (Or.inl ⟨by rfl, fun w' hS' => by go_simp⟩) ?_
          simp only [List.setIfInBounds_toArray, List.set_cons_zero, List.set_cons_succ]
          refine takeH_at 3 33 (.int .u8 (hexD (z / 16).toNat)) rfl rfl (by kernel_rfl) (by kernel_rfl) (by kernel_rfl) (fun _ _ _ h => h) (HB2.out.drew) (Or.inl ⟨by rfl, fun w' hS' => by go_simp⟩) ?_
          simp only [List.setIfInBounds_toArray, List.set_cons_zero, List.set_cons_succ]
          refine takeH_at 4 34 (.int .u8 z) rfl rfl (by kernel_rfl) (by kernel_rfl) (by kernel_rfl) (fun _ _ _ h => h) (HB2.out.drew) (Or.inl ⟨by rfl, fun w' hS' => by go_simp⟩) ?_
          simp only [List.setIfInBounds_toArray, List.set_cons_zero, List.set_cons_succ]
          refine takeH_at 5 35 (.int .u8 (z % 16)) rfl rfl (by kernel_rfl) (by kernel_rfl) (by kernel_rfl) (fun _ _ _ h => h) (HB2.out.drew) (Or.inl ⟨by rfl, fun w' hS' => by go_simp⟩) ?_
          simp only [List.setIfInBounds_toArray, List.set_cons_zero, List.set_cons_succ]
          refine takeH_at 6 36 (.int .u8 (hexD (z % 16).toNat)) rfl rfl (by kernel_rfl) (by kernel_rfl) (by kernel_rfl) (fun _ _ _ h => h) (HB2.out.drew) (Or.inl ⟨by rfl, fun w' hS' => by go_simp⟩) ?_
          simp only [List.setIfInBounds_toArray, List.set_cons_zero, List.set_cons_succ]
          refine wpAnyH_ready (rs := [7]) (by kernel_rfl) (by simp) ?_
          refine AllReadyH.cons rfl (fun K hK => ?_) AllReadyH.nil
          go_simp
          refine hK.out _ _ (HB2.out.alloc HB2.out.size _).drew (fun _ => ?_)
          clear hK K
          refine wpAnyH_ready (rs := [8]) (by kernel_rfl) (by simp) ?_
          refine AllReadyH.cons rfl (fun K hK => ?_) AllReadyH.nil
          refine step_append_lies _ (by rfl) _ _ _ (by rfl) w.heap.size 5 i0 (.int .u8 0) 1 1 Try.underlying46 hi hz0 hz1 hz2 (by rfl) (by decide) _ L (cellsU8 (qK s k)) (by rfl) (hown2.alloc _).drew ⟨wr.heap.size, 0, none⟩ 4 4 (cellsU8 [92, 120, hexD (z / 16).toNat, hexD (z % 16).toNat]) (by rfl) (by rfl) (World.news_of_block (heap_alloc_new wr _)) (cellsU8_one _) (by decide) (by unfold maxLen; omega) (by omega) (by have := HB2.out.size; simp; omega) (wr.heap.size + 1) (by simp) ?_
          intro g cp w2 hown3 hgrow2 hat hglt
          have hb3 : Below w.heap.size w w2 := (HB2.out.alloc HB2.out.size _).drew.grown hgrow2 (by have := HB2.out.size; simp; omega) (fun q hq => (hown2.lt q hq).1)
          refine hK.out _ _ hb3 (fun _ => ?_)
          clear hK K
          change wpAnyH _ _ _ _ _ _ _ ⟨Array.setIfInBounds _ 38 _, _⟩ _
          simp only [List.setIfInBounds_toArray, List.set_cons_zero, List.set_cons_succ]
          refine takeH_at 9 3 (.slice (some ⟨g, 0, none⟩) (L + 4) cp) rfl rfl (by kernel_rfl) (by kernel_rfl) (by kernel_rfl) (fun _ _ _ h => h) (hb3) (Or.inl ⟨by rfl, fun w' hS' => by go_simp⟩) ?_
          simp only [List.setIfInBounds_toArray, List.set_cons_zero, List.set_cons_succ]
          refine wpAnyH_done (by kernel_rfl) ?_ _
          refine NoPanic.normal ?_
          clear hb3 hD
          all_goals
            have HB3 : Hid (Below w.heap.size w w2) := (HB2.out.alloc HB2.out.size _).drew.grown hgrow2 (by have := HB2.out.size; simp; omega) (fun q hq => (hown2.lt q hq).1)
            have hll : (qK s (k + 1)).length = L + 4 := by rw [qK_esc s k hks z HZ.out HE.out, HL.out]; simp
            have HO3 : Hid (w2.ownsRow w.heap.size 5 1 (.slice (some ⟨g, 0, none⟩) (L + 4) cp) (qK s (k + 1)).length (cellsU8 (qK s (k + 1)))) := by
              rw [hll, qK_esc s k hks z HZ.out HE.out, cellsU8_append]
              exact hown3
            clear hown3 hgrow2 hat hglt hown2 HB2 hll
            go_wp2
            go_roundw
            case rel => exact ⟨k + 1, by omega, by go_num, HO3, HB3⟩
            case measure => simp [intOf]; omega
      · have HE : Hid (¬ qe z) := he
        have he1 : 32 ≤ z ∧ z ≤ 126 ∧ z ≠ 34 ∧ z ≠ 92 := by unfold qe at he; omega
        clear he
        go_wp2_with (first
          | (at_builtin; go_must (refine wpList_append_lies _ rfl (.tmp 39) (.tmp 41) 46 rfl w.heap.size 5 i0 (.int .u8 0) 1 1 Try.underlying46 hi hz0 hz1 hz2 rfl (by decide) _ L (cellsU8 (qK s k)) rfl (hown2.alloc _) ⟨wr.heap.size, 0, none⟩ 1 1 (cellsU8 [z]) rfl rfl (World.news_of_block (heap_alloc_new wr _)) (cellsU8_one _) (by decide) (by unfold maxLen; omega) (by omega) (by have := HB2.out.size; simp; omega) (wr.heap.size + 1) (by simp) ?_)))
        all_goals try (exfalso; simp only [beq_iff_eq] at *; omega)
        intro g cp w2 hown3 hgrow2 hat hglt
        have HB3 : Hid (Below w.heap.size w w2) := (HB2.out.alloc HB2.out.size _).grown hgrow2 (by have := HB2.out.size; simp; omega) (fun q hq => (hown2.lt q hq).1)
        have hll : (qK s (k + 1)).length = L + 1 := by rw [qK_one s k hks z HZ.out HE.out, HL.out]; simp
        have HO3 : Hid (w2.ownsRow w.heap.size 5 1 (.slice (some ⟨g, 0, none⟩) (L + 1) cp) (qK s (k + 1)).length (cellsU8 (qK s (k + 1)))) := by
          rw [hll, qK_one s k hks z HZ.out HE.out, cellsU8_append]
          exact hown3
        clear hown3 hgrow2 hat hglt hown2 HB2 hll
        go_wp2
        go_roundw
        case rel => exact ⟨k + 1, by omega, by go_num, HO3, HB3⟩
        case measure => simp [intOf]; omega
    · obtain rfl : k = n := by omega
      go_wp2_with (first
        | (at_builtin; go_must (refine wpList_append_lies _ rfl (.tmp 43) (.tmp 44) 46 rfl w.heap.size 5 i0 (.int .u8 0) 1 1 Try.underlying46 hi hz0 hz1 hz2 rfl (by decide) _ L (cellsU8 (qK s k)) rfl (hown2.alloc _) ⟨wr.heap.size, 0, none⟩ 1 1 (cellsU8 [34]) rfl rfl (World.news_of_block (heap_alloc_new wr _)) (cellsU8_one _) (by decide) (by unfold maxLen; omega) (by omega) (by have := HB2.out.size; simp; omega) (wr.heap.size + 1) (by simp) ?_)))
      intro g cp w2 hown3 hgrow2 hat hglt
      have HB3 : Hid (Below w.heap.size w w2) := (HB2.out.alloc HB2.out.size _).grown hgrow2 (by have := HB2.out.size; simp; omega) (fun q hq => (hown2.lt q hq).1)
      have hq : qK s k ++ [34] = 34 :: qB (nums s) ++ [34] := by rw [← hsz, qK_end]
      rw [← cellsU8_append, hq] at hown3
      have hlen : (34 :: qB (nums s) ++ [34]).length = L + 1 := by rw [← hq, HL.out]; simp
      have hbk : (convert 46 9 (.slice (some ⟨g, 0, none⟩) (L + 1) cp)).run Try.prog w2 = .ok (.string (quoted s)) w2 := by
        refine run_convert_bytes_arg w2 46 5 Try.underlying46 Try.underlying5 g 0 (L + 1) cp (34 :: qB (nums s) ++ [34]) hlen (fun i hi => ?_) 9 Try.underlying9
        have hc := hown3.cells (g := g) rfl i (.int .u8 ((34 :: qB (nums s) ++ [34]).getD i 0)) (by simp only [cellsU8, List.getElem?_map, List.getD]; rw [List.getElem?_eq_getElem (show i < (34 :: qB (nums s) ++ [34]).length by omega)]; rfl)
        rw [Addr.add_lit] at hc
        simpa using hc
      clear hown3 hgrow2 hat hglt hown2 HB2 hq hlen
      go_wp2
      go_ret
      exact ⟨rfl, HB3⟩

set_option maxHeartbeats 1000000 in
set_option maxRecDepth 100000 in
theorem quotes_ok (s : ByteArray) (w : World) (hn : s.size ≤ 1048576) :
    Calls Try.prog 3 #[.string s] w fun e w' => e = .returned (.bool true) ∧ Below w.heap.size w w' := by
  go_enter Try.func3, Try.ntmps3
  go_wp2_with (first
    | (go_at_call 5; refine (quote_ok s s.size _ rfl hn).mono ?_; rintro e w1 ⟨rfl, b1⟩)
    | (go_at_call 6; refine (rquote_ok s s.size _ rfl hn).mono ?_; rintro e w2 ⟨rfl, b2⟩))
  go_ret
  exact ⟨by simp, b1.trans (b2.mono b1.size)⟩
end Go.Proofs.Ytcpplafgdedklaa
