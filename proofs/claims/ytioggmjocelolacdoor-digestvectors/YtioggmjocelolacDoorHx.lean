import Derived.Test.YtioggmjocelolacDoorHxF
import Derived.Deep.RegionHeld3
import Derived.Deep.AppendLies
import Derived.Deep.DrawnRows
import Derived.Laws.BytesString
namespace Go.Proofs.YtioggmjocelolacDoor
open Go.RowKit
attribute [local go_sem ↓] Go.wp_at_zero Go.wp_at_succ

set_option maxHeartbeats 800000 in
set_option maxRecDepth 100000 in
theorem hex_core (b off n cap : Nat) (xs : List Int) (w : World) (hx : Hid (xs.length = n)) (hn : n ≤ 65536) (ax : Hid (AllBytes xs))
    (h1 : ∀ i, i < n → w.cell? ⟨b, off + i, none⟩ = some (.int .u8 (xs.getD i 0))) :
    Calls Tryd.prog 12 #[.slice (some ⟨b, off, none⟩) n cap] w fun e w' => e = .returned (.string (strOfNums (hexBytes xs))) ∧ Below w.heap.size w w' := by
  obtain ⟨i0, hi, hz0, hz1, hz2⟩ := info_parts Tryd.info5
  have h8 : decide ((8388608 : Int) < (n : Int)) = false := by simp; omega
  go_enter Tryd.func12, Tryd.ntmps12
  go_wp2_with (first
    | (at_make; go_must (refine wpList_make_own _ rfl _ _ 22 rfl w.heap.size 5 i0 (.int .u8 0) 1 Tryd.underlying22 hi hz0 hz1 .i64 .i64 (2 * (n : Int)) (2 * n) rfl rfl ?_ ?_ ?_ ?_ ?_)))
  · simp
  · rw [hz2]; omega
  · unfold maxLen; omega
  · omega
  intro w1 hown hgrow
  have hb0 : Below w.heap.size w w1 := (Below.refl _ _).grown hgrow (Nat.le_refl _) (by intro k hk; cases hk)
  have HB : Hid (Below w.heap.size w w1) := hb0
  clear hgrow hb0
  go_wp2
  go_loopw [3, 15] (fun v i wr => ∃ k : Nat, k ≤ n ∧ i = .int .i64 k ∧ wr.ownsRow w.heap.size 5 1 v (2 * k) (cellsU8 (hexBytes (xs.take k))) ∧ Hid (Below w.heap.size w wr)) (fun _ i _ => n - (intOf i).toNat)
  case atStart => exact ⟨0, by omega, rfl, hown, HB⟩
  case round =>
    obtain ⟨k, hk, rfl, hown2, HB2⟩ := hrel
    clear hown HB
    by_cases hlt : k < n
    · have hb := ax.out k
      obtain ⟨z, hz⟩ : ∃ z, z = xs.getD k 0 := ⟨_, rfl⟩
      have g1 : wr.cell? ⟨b, off + k, none⟩ = some (.int .u8 z) := by rw [hz, HB2.out.cell (World.block_lt_of_cell? w _ (h1 k hlt))]; exact h1 k hlt
      rw [← hz] at hb
      obtain ⟨hb1, hb2⟩ := hb
      have HZ : Hid (z = xs.getD k 0) := hz
      clear hz h1
      have ha : bits .and .u8 z 15 = z % 16 := u8_and15 _ hb1 hb2
      have hm1 : z % 16 < 16 := by omega
      have hm0 : 0 ≤ z % 16 := by omega
      go_wp2
      have hD := hexD_at
      go_region_held3 (fun _ => True) (trivial) ((refine step_append_lies _ (by rfl) _ _ _ (by rfl) w.heap.size 5 i0 (.int .u8 0) 1 1 Tryd.underlying22 hi hz0 hz1 hz2 (by rfl) (by decide) _ (2 * k) (cellsU8 (hexBytes (xs.take k))) (by rfl) (hown2.alloc _).drew ⟨wr.heap.size, 0, none⟩ 2 2 (cellsU8 [hexD (z / 16).toNat, hexD (z % 16).toNat]) (by rfl) (by rfl) (World.news_of_block (heap_alloc_new wr _)) (cellsU8_one _) (by decide) (by unfold maxLen; omega) (by omega) (by have := HB2.out.size; simp; omega) (wr.heap.size + 1) (by simp) ?_; intro g cp w2 hown3 hgrow2 hat hglt))
      all_goals
        have HB3 : Hid (Below w.heap.size w w2) := (HB2.out.alloc HB2.out.size _).drew.grown hgrow2 (by have := HB2.out.size; simp; omega) (fun q hq => (hown2.lt q hq).1)
        have ho3 : w2.ownsRow w.heap.size 5 1 (.slice (some ⟨g, 0, none⟩) (2 * k + 2) cp) (2 * (k + 1)) (cellsU8 (hexBytes (xs.take (k + 1)))) := by
          rw [take_snoc xs k (by rw [hx.out]; exact hlt), hexBytes_append, cellsU8_append, ← HZ.out]
          exact hown3
        have HO3 : Hid (w2.ownsRow w.heap.size 5 1 (.slice (some ⟨g, 0, none⟩) (2 * k + 2) cp) (2 * (k + 1)) (cellsU8 (hexBytes (xs.take (k + 1))))) := ho3
        clear ho3 hown3 hgrow2 hat hglt hown2 HB2
        go_wp2
        go_roundw
        case rel => exact ⟨k + 1, by omega, by go_num, HO3, HB3⟩
        case measure => simp [intOf]; omega
    · obtain rfl : k = n := by omega
      have htk : xs.take k = xs := List.take_of_length_le (by rw [hx.out]; exact Nat.le_refl _)
      rw [htk] at hown2
      have hlen : (hexBytes xs).length = 2 * k := by rw [hexBytes_length, hx.out]
      have hback : ∀ dst, Tryd.prog.underlying dst = some .string → (convert 22 dst u3).run Tryd.prog wr = .ok (.string (strOfNums (hexBytes xs))) wr := by
        rcases hown2.2 with ⟨rfl, h0⟩ | ⟨g, c, cur, rfl, hg1, hg2, hg3, hg4, hg5, hg6⟩
        · have hnil : hexBytes xs = [] := List.eq_nil_of_length_eq_zero (by omega)
          rw [hnil, strOfNums_nil]
          exact run_convert_bytes_nil wr 22 5 Tryd.underlying22 Tryd.underlying5 0 0
        · refine run_convert_bytes_arg wr 22 5 Tryd.underlying22 Tryd.underlying5 g 0 (2 * k) c (hexBytes xs) hlen (fun i hi => ?_)
          have hc := hown2.cells (g := g) rfl i (.int .u8 ((hexBytes xs).getD i 0)) (by simp [cellsU8, List.getD, List.getElem?_eq_getElem (show i < (hexBytes xs).length by omega)])
          rw [Addr.add_lit] at hc
          simpa using hc
      have hbk := hback 9 Tryd.underlying9
      clear hback hown2 htk hlen hlt hk
      go_wp2
      go_ret
      exact ⟨rfl, HB2⟩

set_option maxHeartbeats 800000 in
theorem hex_zero (a : Option Addr) (cap : Nat) (w : World) :
    Calls Tryd.prog 12 #[.slice a 0 cap] w fun e w' => e = .returned (.string ByteArray.empty) ∧ Below w.heap.size w w' := by
  obtain ⟨i0, hi, hz0, hz1, hz2⟩ := info_parts Tryd.info5
  go_enter Tryd.func12, Tryd.ntmps12
  go_wp2_with (first
    | (at_make; go_must (refine wpList_make_own _ rfl _ _ 22 rfl w.heap.size 5 i0 (.int .u8 0) 1 Tryd.underlying22 hi hz0 hz1 .i64 .i64 0 0 rfl rfl ?_ ?_ ?_ ?_ ?_)))
  · simp
  · rw [hz2]; omega
  · unfold maxLen; omega
  · omega
  intro w1 hown hgrow
  have hb0 : Below w.heap.size w w1 := (Below.refl _ _).grown hgrow (Nat.le_refl _) (by intro k hk; cases hk)
  have HB : Hid (Below w.heap.size w w1) := hb0
  clear hgrow hb0
  go_wp2
  go_loop [3, 15] (fun v i => v = .slice (some ⟨w.heap.size, 0, none⟩) 0 0 ∧ i = .int .i64 0) (fun _ _ => 0)
  case atStart => exact ⟨rfl, rfl⟩
  case round =>
    obtain ⟨rfl, rfl⟩ := hrel
    have hbk := run_convert_bytes_arg (P := Tryd.prog) w1 22 5 Tryd.underlying22 Tryd.underlying5 w.heap.size 0 0 0 [] rfl (fun i hi => by omega) 9 Tryd.underlying9
    rw [strOfNums_nil] at hbk
    clear hown
    go_wp2
    go_ret
    exact ⟨rfl, HB⟩

/-- digest.Hex. -/
theorem hex_any (v : Value) (xs : List Int) (w : World) (hn : xs.length ≤ 65536) (ax : AllBytes xs) (h : View w v xs) :
    Calls Tryd.prog 12 #[v] w fun e w' => e = .returned (.string (strOfNums (hexBytes xs))) ∧ Below w.heap.size w w' := by
  obtain ⟨a, c, rfl, h1, h2, h3, h4⟩ := h
  rcases h4 with rfl | ⟨b, off, rfl, hc⟩
  · exact hex_zero a c w
  · exact hex_core b off xs.length c xs w rfl hn ax hc
end Go.Proofs.YtioggmjocelolacDoor
