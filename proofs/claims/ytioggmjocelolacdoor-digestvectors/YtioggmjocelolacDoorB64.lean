import Derived.Test.YtioggmjocelolacDoorB64F
import Derived.Test.YtioggmjocelolacDoorHx
import Derived.Test.YtioggmjocelolacDoorPart04
import Derived.Deep.RegionHeld3
import Derived.Deep.AppendLies
import Derived.Deep.DrawnRows
namespace Go.Proofs.YtioggmjocelolacDoor
open Go.RowKit
attribute [local go_sem ↓] Go.wp_at_zero Go.wp_at_succ

/-- A list of the call's own, made a text. -/
theorem back_any (w : World) (n B : Nat) (v : Value) (zs : List Int) (hl : zs.length = n) (hown : w.ownsRow B 5 1 v n (cellsU8 zs)) : (convert 22 9 v).run Tryd.prog w = .ok (.string (strOfNums zs)) w := by
  rcases hown.2 with ⟨rfl, h0⟩ | ⟨g, c, cur, rfl, hg1, hg2, hg3, hg4, hg5, hg6⟩
  · have hnil : zs = [] := List.eq_nil_of_length_eq_zero (by omega)
    rw [hnil, strOfNums_nil]
    exact run_convert_bytes_nil w 22 5 Tryd.underlying22 Tryd.underlying5 0 0 9 Tryd.underlying9
  · refine run_convert_bytes_arg w 22 5 Tryd.underlying22 Tryd.underlying5 g 0 n c zs hl (fun i hi => ?_) 9 Tryd.underlying9
    have hc := hown.cells (g := g) rfl i (.int .u8 (zs.getD i 0)) (by simp [cellsU8, List.getD, List.getElem?_eq_getElem (show i < zs.length by omega)])
    rw [Addr.add_lit] at hc
    simpa using hc

set_option maxHeartbeats 3200000 in
set_option maxRecDepth 100000 in
theorem b64_core (b off n cap : Nat) (xs : List Int) (w : World) (hx : Hid (xs.length = n)) (hn : n ≤ 65536) (hnc : n ≤ cap) (hcm : cap ≤ 9223372036854775807) (ax : Hid (AllBytes xs))
    (h1 : ∀ i, i < n → w.cell? ⟨b, off + i, none⟩ = some (.int .u8 (xs.getD i 0))) :
    Calls Tryd.prog 14 #[.slice (some ⟨b, off, none⟩) n cap] w fun e w' => e = .returned (.string (strOfNums (b64 xs))) ∧ Below w.heap.size w w' := by
  obtain ⟨i0, hi, hz0, hz1, hz2⟩ := info_parts Tryd.info5
  have h8 : decide ((12582912 : Int) < (n : Int)) = false := by simp; omega
  go_enter Tryd.func14, Tryd.ntmps14
  go_wp2_with (first
    | (at_make; go_must (refine wpList_make_own _ rfl _ _ 22 rfl w.heap.size 5 i0 (.int .u8 0) 1 Tryd.underlying22 hi hz0 hz1 .i64 .i64 _ ((n + 2) / 3 * 4) rfl rfl ?_ ?_ ?_ ?_ ?_)))
  · omega
  · rw [hz2]; omega
  · unfold maxLen; omega
  · omega
  intro w1 hown hgrow
  have HB : Hid (Below w.heap.size w w1) := (Below.refl _ _).grown hgrow (Nat.le_refl _) (by intro k hk; cases hk)
  clear hgrow
  go_wp2
  go_loopw [0, 3, 4] (fun bv v _ wr => ∃ (k p q : Nat) (a : Option Addr), Hid (n = 3 * k + p) ∧ Hid (cap = 3 * k + q) ∧ bv = .slice a p q ∧ Hid (0 < p → a = some ⟨b, off + 3 * k, none⟩) ∧ wr.ownsRow w.heap.size 5 1 v (4 * k) (cellsU8 (grps xs k)) ∧ Hid (Below w.heap.size w wr))
    (fun bv _ _ _ => match bv with | .slice _ l _ => l | _ => 0)
  case atStart => exact ⟨0, n, cap, _, (by simp : n = 3 * 0 + n), (by simp : cap = 3 * 0 + cap), rfl, fun _ => rfl, hown, HB⟩
  case round =>
    obtain ⟨k, p, q, a, HN, HQ, rfl, HA, hown2, HB2⟩ := hrel
    clear hown HB
    have hp16 : p ≤ 65536 := by have := HN.out; omega
    have hpq : p ≤ q := by have := HN.out; have := HQ.out; omega
    have hqm : q ≤ 9223372036854775807 := by have := HQ.out; omega
    by_cases hge : 3 ≤ p
    · obtain rfl := HA.out (by omega)
      have hcl : ∀ i, i < 3 → wr.cell? ⟨b, off + 3 * k + i, none⟩ = some (.int .u8 (xs.getD (3 * k + i) 0)) := by
        intro i hi
        have hw := h1 (3 * k + i) (by have := HN.out; omega)
        rw [Nat.add_assoc, HB2.out.cell (World.block_lt_of_cell? w _ hw)]
        exact hw
      have g0 := hcl 0 (by omega)
      have g1 := hcl 1 (by omega)
      have g2 := hcl 2 (by omega)
      rw [Nat.add_zero, Nat.add_zero] at g0
      have r0 := ax.out (3 * k)
      have r1 := ax.out (3 * k + 1)
      have r2 := ax.out (3 * k + 2)
      have HG : Hid (grps xs (k + 1) = grps xs k ++ grp (xs.getD (3 * k) 0 * 65536 + xs.getD (3 * k + 1) 0 * 256 + xs.getD (3 * k + 2) 0)) := rfl
      generalize xs.getD (3 * k) 0 = x at g0 r0 HG
      generalize xs.getD (3 * k + 1) 0 = y at g1 r1 HG
      generalize xs.getD (3 * k + 2) 0 = z at g2 r2 HG
      obtain ⟨r00, r01⟩ := r0
      obtain ⟨r10, r11⟩ := r1
      obtain ⟨r20, r21⟩ := r2
      have hor := orThree x y z r00 r01 r10 r11 r20 r21
      obtain ⟨v, hv⟩ : ∃ v, v = x * 65536 + y * 256 + z := ⟨_, rfl⟩
      rw [← hv] at hor HG
      have v0 : 0 ≤ v := by omega
      have v1 : v < 16777216 := by omega
      have a1 : bits .and .u64 (v / 4096) 63 = v / 4096 % 64 := and63 _ (by omega) (by omega)
      have a2 : bits .and .u64 (v / 64) 63 = v / 64 % 64 := and63 _ (by omega) (by omega)
      have a3 : bits .and .u64 v 63 = v % 64 := and63 _ (by omega) (by omega)
      clear hcl h1 hv
      go_wp2
      go_quiet (fail)
      go_wp2
      clear g0 g1 g2 r00 r01 r10 r11 r20 r21 hor
      have b0 : v / 262144 < 64 := by omega
      have b1 : v / 4096 % 64 < 64 := by omega
      have b2 : v / 64 % 64 < 64 := by omega
      have b3 : v % 64 < 64 := by omega
      have b00 : 0 ≤ v / 262144 := by omega
      have b10 : 0 ≤ v / 4096 % 64 := by omega
      have b20 : 0 ≤ v / 64 % 64 := by omega
      have b30 : 0 ≤ v % 64 := by omega
      have hD := letD_at
      have hownq : (wr.drewN nq).ownsRow w.heap.size 5 1 u3 (4 * k) (cellsU8 (grps xs k)) := hown2
      have HBq : Hid (Below w.heap.size w (wr.drewN nq)) := ⟨HB2.out.os, HB2.out.tape, HB2.out.output, HB2.out.size, HB2.out.block⟩
      clear hown2 HB2
      generalize wr.drewN nq = wq at hownq HBq ⊢
      refine wp_region_noPanic ?_
      refine wp_region_any (by kernel_rfl) ?_
      change wpAny _ _ _ _ _ _ _ (World.drew _)
      refine take_at 0 35 (u3) rfl rfl (by kernel_rfl) (by kernel_rfl) (by kernel_rfl) (fun _ _ _ h => h) (Or.inl ⟨by rfl, fun _ => by go_simp⟩) ?_
      simp only [List.setIfInBounds_toArray, List.set_cons_zero, List.set_cons_succ]
      refine take_at 1 36 (.int .u64 (v)) rfl rfl (by kernel_rfl) (by kernel_rfl) (by kernel_rfl) (fun _ _ _ h => h) (Or.inl ⟨by rfl, fun _ => by go_simp⟩) ?_
      simp only [List.setIfInBounds_toArray, List.set_cons_zero, List.set_cons_succ]
      refine take_at 2 37 (.int .u64 (v / 262144)) rfl rfl (by kernel_rfl) (by kernel_rfl) (by kernel_rfl) (fun _ _ _ h => h) (Or.inl ⟨by rfl, fun _ => by go_simp⟩) ?_
      simp only [List.setIfInBounds_toArray, List.set_cons_zero, List.set_cons_succ]
      refine take_at 3 38 (.int .u8 (letD (v / 262144).toNat)) rfl rfl (by kernel_rfl) (by kernel_rfl) (by kernel_rfl) (fun _ _ _ h => h) (Or.inl ⟨by rfl, fun _ => by go_simp⟩) ?_
      simp only [List.setIfInBounds_toArray, List.set_cons_zero, List.set_cons_succ]
      refine take_at 4 39 (.int .u64 (v)) rfl rfl (by kernel_rfl) (by kernel_rfl) (by kernel_rfl) (fun _ _ _ h => h) (Or.inl ⟨by rfl, fun _ => by go_simp⟩) ?_
      simp only [List.setIfInBounds_toArray, List.set_cons_zero, List.set_cons_succ]
      refine take_at 5 40 (.int .u64 (v / 4096)) rfl rfl (by kernel_rfl) (by kernel_rfl) (by kernel_rfl) (fun _ _ _ h => h) (Or.inl ⟨by rfl, fun _ => by go_simp⟩) ?_
      simp only [List.setIfInBounds_toArray, List.set_cons_zero, List.set_cons_succ]
      refine take_at 6 41 (.int .u64 (v / 4096 % 64)) rfl rfl (by kernel_rfl) (by kernel_rfl) (by kernel_rfl) (fun _ _ _ h => h) (Or.inl ⟨by rfl, fun _ => by go_simp⟩) ?_
      simp only [List.setIfInBounds_toArray, List.set_cons_zero, List.set_cons_succ]
      refine take_at 7 42 (.int .u8 (letD (v / 4096 % 64).toNat)) rfl rfl (by kernel_rfl) (by kernel_rfl) (by kernel_rfl) (fun _ _ _ h => h) (Or.inl ⟨by rfl, fun _ => by go_simp⟩) ?_
      simp only [List.setIfInBounds_toArray, List.set_cons_zero, List.set_cons_succ]
      refine take_at 8 43 (.int .u64 (v)) rfl rfl (by kernel_rfl) (by kernel_rfl) (by kernel_rfl) (fun _ _ _ h => h) (Or.inl ⟨by rfl, fun _ => by go_simp⟩) ?_
      simp only [List.setIfInBounds_toArray, List.set_cons_zero, List.set_cons_succ]
      refine take_at 9 44 (.int .u64 (v / 64)) rfl rfl (by kernel_rfl) (by kernel_rfl) (by kernel_rfl) (fun _ _ _ h => h) (Or.inl ⟨by rfl, fun _ => by go_simp⟩) ?_
      simp only [List.setIfInBounds_toArray, List.set_cons_zero, List.set_cons_succ]
      refine take_at 10 45 (.int .u64 (v / 64 % 64)) rfl rfl (by kernel_rfl) (by kernel_rfl) (by kernel_rfl) (fun _ _ _ h => h) (Or.inl ⟨by rfl, fun _ => by go_simp⟩) ?_
      simp only [List.setIfInBounds_toArray, List.set_cons_zero, List.set_cons_succ]
      refine take_at 11 46 (.int .u8 (letD (v / 64 % 64).toNat)) rfl rfl (by kernel_rfl) (by kernel_rfl) (by kernel_rfl) (fun _ _ _ h => h) (Or.inl ⟨by rfl, fun _ => by go_simp⟩) ?_
      simp only [List.setIfInBounds_toArray, List.set_cons_zero, List.set_cons_succ]
      refine take_at 12 47 (.int .u64 (v)) rfl rfl (by kernel_rfl) (by kernel_rfl) (by kernel_rfl) (fun _ _ _ h => h) (Or.inl ⟨by rfl, fun _ => by go_simp⟩) ?_
      simp only [List.setIfInBounds_toArray, List.set_cons_zero, List.set_cons_succ]
      refine take_at 13 48 (.int .u64 (v % 64)) rfl rfl (by kernel_rfl) (by kernel_rfl) (by kernel_rfl) (fun _ _ _ h => h) (Or.inl ⟨by rfl, fun _ => by go_simp⟩) ?_
      simp only [List.setIfInBounds_toArray, List.set_cons_zero, List.set_cons_succ]
      refine take_at 14 49 (.int .u8 (letD (v % 64).toNat)) rfl rfl (by kernel_rfl) (by kernel_rfl) (by kernel_rfl) (fun _ _ _ h => h) (Or.inl ⟨by rfl, fun _ => by go_simp⟩) ?_
      simp only [List.setIfInBounds_toArray, List.set_cons_zero, List.set_cons_succ]
      refine wpAny_ready (rs := [15]) (by kernel_rfl) (by simp) ?_
      refine AllReady.cons rfl (fun K hK => ?_) AllReady.nil
      go_simp
      refine hK _ _ ?_
      clear hK K
      refine wpAny_ready (rs := [16]) (by kernel_rfl) (by simp) ?_
      refine AllReady.cons rfl (fun K hK => ?_) AllReady.nil
      refine step_append_lies _ (by rfl) _ _ _ (by rfl) w.heap.size 5 i0 (.int .u8 0) 1 1 Tryd.underlying22 hi hz0 hz1 hz2 (by rfl) (by decide) _ (4 * k) (cellsU8 (grps xs k)) (by rfl) (hownq.alloc _).drew ⟨wq.heap.size, 0, none⟩ 4 4 (cellsU8 (grp v)) (by rfl) (by rfl) (World.news_of_block (heap_alloc_new wq _)) (cellsU8_one _) (by decide) (by have := HN.out; unfold maxLen; omega) (by have := HN.out; omega) (by have := HBq.out.size; simp; omega) (wq.heap.size + 1) (by simp) ?_
      intro g cp w2 hown3 hgrow2 hat hglt
      refine hK _ _ ?_
      clear hK K
      change wpAny _ _ _ _ _ _ ⟨Array.setIfInBounds _ 51 _, _⟩ _
      simp only [List.setIfInBounds_toArray, List.set_cons_zero, List.set_cons_succ]
      have HB3 : Hid (Below w.heap.size w w2) := (HBq.out.alloc HBq.out.size _).drew.grown hgrow2 (by have := HBq.out.size; simp; omega) (fun q hq => (hownq.lt q hq).1)
      have HO3 : Hid (w2.ownsRow w.heap.size 5 1 (.slice (some ⟨g, 0, none⟩) (4 * k + 4) cp) (4 * (k + 1)) (cellsU8 (grps xs (k + 1)))) := by
        rw [HG.out, cellsU8_append]
        exact hown3
      clear hown3 hgrow2 hat hglt hownq HBq
      refine take_at 17 3 (.slice (some ⟨g, 0, none⟩) (4 * k + 4) cp) rfl rfl (by kernel_rfl) (by kernel_rfl) (by kernel_rfl) (fun _ _ _ h => h) (Or.inl ⟨by rfl, fun _ => by go_simp⟩) ?_
      simp only [List.setIfInBounds_toArray, List.set_cons_zero, List.set_cons_succ]
      refine wpAny_done (by kernel_rfl) ?_ _
      refine NoPanic.normal ?_
      clear hD b0 b1 b2 b3 b00 b10 b20 b30 a1 a2 a3
      go_wp2
      go_roundw
      case rel => exact ⟨k + 1, p - 3, q - 3, _, (by have := HN.out; show n = 3 * (k + 1) + (p - 3); omega), (by have := HQ.out; show cap = 3 * (k + 1) + (q - 3); omega), rfl, (fun h0 => by rw [if_neg (by omega : ¬ q = 3)]; rfl), HO3, HB3⟩
      case measure => show p - 3 < p; omega
    · have hsp := b64_split k xs (by rw [hx.out]; have := HN.out; omega)
      have hdl : (xs.drop (3 * k)).length = p := by rw [List.length_drop, hx.out]; have := HN.out; omega
      have hcase : p = 0 ∨ p = 1 ∨ p = 2 := by omega
      rcases hcase with rfl | rfl | rfl
      · have hend : b64 xs = grps xs k := by
          rw [hsp, List.eq_nil_of_length_eq_zero hdl, b64, List.append_nil]
        have hbk := back_any wr (4 * k) w.heap.size u3 (grps xs k) (grps_length xs k) hown2
        rw [← hend] at hbk
        clear hown2 hend hsp hdl h1
        go_wp2
        go_ret
        exact ⟨rfl, HB2⟩
      · obtain rfl := HA.out (by omega)
        have g0 := h1 (3 * k) (by have := HN.out; omega)
        have hblk : b < w.heap.size := World.block_lt_of_cell? w _ g0
        have r0 := ax.out (3 * k)
        have hend : b64 xs = grps xs k ++ [letD (xs.getD (3 * k) 0 / 4).toNat, letD (xs.getD (3 * k) 0 % 4 * 16).toNat, 61, 61] := by
          rw [hsp]
          obtain ⟨c, hc⟩ := List.length_eq_one_iff.1 hdl
          have e : xs.getD (3 * k) 0 = c := by rw [List.getD_eq_getElem?_getD, ← Nat.add_zero (3 * k), ← List.getElem?_drop, hc]; rfl
          rw [hc, e, b64]
        generalize xs.getD (3 * k) 0 = x at g0 r0 hend
        obtain ⟨r00, r01⟩ := r0
        have a1 : bits .and .u8 x 3 = x % 4 := and3 x r00 r01
        have b0 : x / 4 < 64 := by omega
        have b00 : 0 ≤ x / 4 := by omega
        have b1 : x % 4 * 16 < 64 := by omega
        have b10 : 0 ≤ x % 4 * 16 := by omega
        have b2 : 0 ≤ x % 4 := by omega
        have e1 : IntKind.u8.wrap (x % 4 * 16) = x % 4 * 16 := by rw [IntKind.wrap_u8]; omega
        have hD := letD_at
        have hownq := hown2
        have HBq := HB2
        clear hown2 HB2 hsp hdl h1
        go_wp2
        refine wp_region_noPanic ?_
        refine wp_region_held_drew (S := fun w' => Below w.heap.size w w') (by kernel_rfl) (HBq.out.drew) (fun _ => ?_)
        refine takeH_at 0 56 (u3) rfl rfl (by kernel_rfl) (by kernel_rfl) (by kernel_rfl) (fun _ _ _ h => h) (HBq.out.drew) (Or.inl ⟨by rfl, fun w' hS' => by go_simp⟩) ?_
        simp only [List.setIfInBounds_toArray, List.set_cons_zero, List.set_cons_succ]
        refine takeH_at 1 57 (.slice (some ⟨b, off + 3 * k, none⟩) 1 q) rfl rfl (by kernel_rfl) (by kernel_rfl) (by kernel_rfl) (fun _ _ _ h => h) (HBq.out.drew) (Or.inl ⟨by rfl, fun w' hS' => by go_simp⟩) ?_
        simp only [List.setIfInBounds_toArray, List.set_cons_zero, List.set_cons_succ]
        refine takeH_at 2 58 (.pointer (some ⟨b, off + 3 * k, none⟩)) rfl rfl (by kernel_rfl) (by kernel_rfl) (by kernel_rfl) (fun _ _ _ h => h) (HBq.out.drew) (Or.inl ⟨by rfl, fun w' hS' => by go_simp⟩) ?_
        simp only [List.setIfInBounds_toArray, List.set_cons_zero, List.set_cons_succ]
        refine takeH_at 3 59 (.int .u8 (x)) rfl rfl (by kernel_rfl) (by kernel_rfl) (by kernel_rfl) (fun _ _ _ h => h) (HBq.out.drew) (Or.inl ⟨by rfl, fun w' hS' => by have g : w'.cell? ⟨b, off + 3 * k, none⟩ = some (.int .u8 x) := (hS'.cell hblk).trans g0; go_simp⟩) ?_
        simp only [List.setIfInBounds_toArray, List.set_cons_zero, List.set_cons_succ]
        refine takeH_at 4 60 (.int .u8 (x / 4)) rfl rfl (by kernel_rfl) (by kernel_rfl) (by kernel_rfl) (fun _ _ _ h => h) (HBq.out.drew) (Or.inl ⟨by rfl, fun w' hS' => by go_simp⟩) ?_
        simp only [List.setIfInBounds_toArray, List.set_cons_zero, List.set_cons_succ]
        refine takeH_at 5 61 (.int .u8 (letD (x / 4).toNat)) rfl rfl (by kernel_rfl) (by kernel_rfl) (by kernel_rfl) (fun _ _ _ h => h) (HBq.out.drew) (Or.inl ⟨by rfl, fun w' hS' => by go_simp⟩) ?_
        simp only [List.setIfInBounds_toArray, List.set_cons_zero, List.set_cons_succ]
        refine takeH_at 6 62 (.slice (some ⟨b, off + 3 * k, none⟩) 1 q) rfl rfl (by kernel_rfl) (by kernel_rfl) (by kernel_rfl) (fun _ _ _ h => h) (HBq.out.drew) (Or.inl ⟨by rfl, fun w' hS' => by go_simp⟩) ?_
        simp only [List.setIfInBounds_toArray, List.set_cons_zero, List.set_cons_succ]
        refine takeH_at 7 63 (.pointer (some ⟨b, off + 3 * k, none⟩)) rfl rfl (by kernel_rfl) (by kernel_rfl) (by kernel_rfl) (fun _ _ _ h => h) (HBq.out.drew) (Or.inl ⟨by rfl, fun w' hS' => by go_simp⟩) ?_
        simp only [List.setIfInBounds_toArray, List.set_cons_zero, List.set_cons_succ]
        refine takeH_at 8 64 (.int .u8 (x)) rfl rfl (by kernel_rfl) (by kernel_rfl) (by kernel_rfl) (fun _ _ _ h => h) (HBq.out.drew) (Or.inl ⟨by rfl, fun w' hS' => by have g : w'.cell? ⟨b, off + 3 * k, none⟩ = some (.int .u8 x) := (hS'.cell hblk).trans g0; go_simp⟩) ?_
        simp only [List.setIfInBounds_toArray, List.set_cons_zero, List.set_cons_succ]
        refine takeH_at 9 65 (.int .u8 (x % 4)) rfl rfl (by kernel_rfl) (by kernel_rfl) (by kernel_rfl) (fun _ _ _ h => h) (HBq.out.drew) (Or.inl ⟨by rfl, fun w' hS' => by go_simp⟩) ?_
        simp only [List.setIfInBounds_toArray, List.set_cons_zero, List.set_cons_succ]
        refine takeH_at 10 66 (.int .u8 (x % 4 * 16)) rfl rfl (by kernel_rfl) (by kernel_rfl) (by kernel_rfl) (fun _ _ _ h => h) (HBq.out.drew) (Or.inl ⟨by rfl, fun w' hS' => by go_simp⟩) ?_
        simp only [List.setIfInBounds_toArray, List.set_cons_zero, List.set_cons_succ]
        refine takeH_at 11 67 (.int .u8 (letD (x % 4 * 16).toNat)) rfl rfl (by kernel_rfl) (by kernel_rfl) (by kernel_rfl) (fun _ _ _ h => h) (HBq.out.drew) (Or.inl ⟨by rfl, fun w' hS' => by go_simp⟩) ?_
        simp only [List.setIfInBounds_toArray, List.set_cons_zero, List.set_cons_succ]
        refine wpAnyH_ready (rs := [12]) (by kernel_rfl) (by simp) ?_
        refine AllReadyH.cons rfl (fun K hK => ?_) AllReadyH.nil
        go_simp
        refine hK.out _ _ (HBq.out.alloc HBq.out.size _).drew (fun _ => ?_)
        clear hK K
        refine wpAnyH_ready (rs := [13]) (by kernel_rfl) (by simp) ?_
        refine AllReadyH.cons rfl (fun K hK => ?_) AllReadyH.nil
        refine step_append_lies _ (by rfl) _ _ _ (by rfl) w.heap.size 5 i0 (.int .u8 0) 1 1 Tryd.underlying22 hi hz0 hz1 hz2 (by rfl) (by decide) _ (4 * k) (cellsU8 (grps xs k)) (by rfl) (hownq.alloc _).drew ⟨wr.heap.size, 0, none⟩ 4 4 (cellsU8 [letD (x / 4).toNat, letD (x % 4 * 16).toNat, 61, 61]) (by rfl) (by rfl) (World.news_of_block (heap_alloc_new wr _)) (cellsU8_one _) (by decide) (by have := HN.out; unfold maxLen; omega) (by have := HN.out; omega) (by have := HBq.out.size; simp; omega) (wr.heap.size + 1) (by simp) ?_
        intro g cp w2 hown3 hgrow2 hat hglt
        have hb3 : Below w.heap.size w w2 := (HBq.out.alloc HBq.out.size _).drew.grown hgrow2 (by have := HBq.out.size; simp; omega) (fun q hq => (hownq.lt q hq).1)
        refine hK.out _ _ hb3 (fun _ => ?_)
        clear hK K
        change wpAnyH _ _ _ _ _ _ _ ⟨Array.setIfInBounds _ 69 _, _⟩ _
        simp only [List.setIfInBounds_toArray, List.set_cons_zero, List.set_cons_succ]
        refine takeH_at 14 3 (.slice (some ⟨g, 0, none⟩) (4 * k + 4) cp) rfl rfl (by kernel_rfl) (by kernel_rfl) (by kernel_rfl) (fun _ _ _ h => h) (hb3) (Or.inl ⟨by rfl, fun w' hS' => by go_simp⟩) ?_
        simp only [List.setIfInBounds_toArray, List.set_cons_zero, List.set_cons_succ]
        refine wpAnyH_done (by kernel_rfl) ?_ _
        refine NoPanic.normal ?_
        have HB3 : Hid (Below w.heap.size w w2) := hb3
        have hbk := back_any w2 (4 * k + 4) w.heap.size (.slice (some ⟨g, 0, none⟩) (4 * k + 4) cp) (grps xs k ++ [letD (x / 4).toNat, letD (x % 4 * 16).toNat, 61, 61]) (by rw [List.length_append, grps_length]; rfl) (by rw [cellsU8_append]; exact hown3)
        rw [← hend] at hbk
        clear hown3 hgrow2 hat hglt hownq HBq hb3 hend hD
        go_wp2
        go_ret
        exact ⟨rfl, HB3⟩
      · obtain rfl := HA.out (by omega)
        have g0 := h1 (3 * k) (by have := HN.out; omega)
        have g1 := h1 (3 * k + 1) (by have := HN.out; omega)
        rw [← Nat.add_assoc] at g1
        have hblk : b < w.heap.size := World.block_lt_of_cell? w _ g0
        have r0 := ax.out (3 * k)
        have r1 := ax.out (3 * k + 1)
        have hend : b64 xs = grps xs k ++ [letD (xs.getD (3 * k) 0 / 4).toNat, letD (xs.getD (3 * k) 0 % 4 * 16 + xs.getD (3 * k + 1) 0 / 16).toNat, letD (xs.getD (3 * k + 1) 0 % 16 * 4).toNat, 61] := by
          rw [hsp]
          obtain ⟨c, d, hc⟩ := two_of hdl
          have e : xs.getD (3 * k) 0 = c := by rw [List.getD_eq_getElem?_getD, ← Nat.add_zero (3 * k), ← List.getElem?_drop, hc]; rfl
          have e2 : xs.getD (3 * k + 1) 0 = d := by rw [List.getD_eq_getElem?_getD, ← List.getElem?_drop, hc]; rfl
          rw [hc, e, e2, b64]
        generalize xs.getD (3 * k) 0 = x at g0 r0 hend
        generalize xs.getD (3 * k + 1) 0 = y at g1 r1 hend
        obtain ⟨r00, r01⟩ := r0
        obtain ⟨r10, r11⟩ := r1
        have a1 : bits .and .u8 x 3 = x % 4 := and3 x r00 r01
        have a2 : bits .and .u8 y 15 = y % 16 := and15 y r10 r11
        have a3 := orTwo x y r10 r11
        have b0 : x / 4 < 64 := by omega
        have b00 : 0 ≤ x / 4 := by omega
        have b1 : x % 4 * 16 + y / 16 < 64 := by omega
        have b10 : 0 ≤ x % 4 * 16 + y / 16 := by omega
        have b2 : 0 ≤ x % 4 := by omega
        have b3 : y % 16 * 4 < 64 := by omega
        have b30 : 0 ≤ y % 16 * 4 := by omega
        have b4 : 0 ≤ y % 16 := by omega
        have e2 : IntKind.u8.wrap (y % 16 * 4) = y % 16 * 4 := by rw [IntKind.wrap_u8]; omega
        have e1 : IntKind.u8.wrap (x % 4 * 16) = x % 4 * 16 := by rw [IntKind.wrap_u8]; omega
        have hD := letD_at
        have hownq := hown2
        have HBq := HB2
        clear hown2 HB2 hsp hdl h1
        go_wp2
        refine wp_region_noPanic ?_
        refine wp_region_held_drew (S := fun w' => Below w.heap.size w w') (by kernel_rfl) (HBq.out.drew) (fun _ => ?_)
        refine takeH_at 0 72 (u3) rfl rfl (by kernel_rfl) (by kernel_rfl) (by kernel_rfl) (fun _ _ _ h => h) (HBq.out.drew) (Or.inl ⟨by rfl, fun w' hS' => by go_simp⟩) ?_
        simp only [List.setIfInBounds_toArray, List.set_cons_zero, List.set_cons_succ]
        refine takeH_at 1 73 (.slice (some ⟨b, off + 3 * k, none⟩) 2 q) rfl rfl (by kernel_rfl) (by kernel_rfl) (by kernel_rfl) (fun _ _ _ h => h) (HBq.out.drew) (Or.inl ⟨by rfl, fun w' hS' => by go_simp⟩) ?_
        simp only [List.setIfInBounds_toArray, List.set_cons_zero, List.set_cons_succ]
        refine takeH_at 2 74 (.pointer (some ⟨b, off + 3 * k, none⟩)) rfl rfl (by kernel_rfl) (by kernel_rfl) (by kernel_rfl) (fun _ _ _ h => h) (HBq.out.drew) (Or.inl ⟨by rfl, fun w' hS' => by go_simp⟩) ?_
        simp only [List.setIfInBounds_toArray, List.set_cons_zero, List.set_cons_succ]
        refine takeH_at 3 75 (.int .u8 (x)) rfl rfl (by kernel_rfl) (by kernel_rfl) (by kernel_rfl) (fun _ _ _ h => h) (HBq.out.drew) (Or.inl ⟨by rfl, fun w' hS' => by have g : w'.cell? ⟨b, off + 3 * k, none⟩ = some (.int .u8 x) := (hS'.cell hblk).trans g0; go_simp⟩) ?_
        simp only [List.setIfInBounds_toArray, List.set_cons_zero, List.set_cons_succ]
        refine takeH_at 4 76 (.int .u8 (x / 4)) rfl rfl (by kernel_rfl) (by kernel_rfl) (by kernel_rfl) (fun _ _ _ h => h) (HBq.out.drew) (Or.inl ⟨by rfl, fun w' hS' => by go_simp⟩) ?_
        simp only [List.setIfInBounds_toArray, List.set_cons_zero, List.set_cons_succ]
        refine takeH_at 5 77 (.int .u8 (letD (x / 4).toNat)) rfl rfl (by kernel_rfl) (by kernel_rfl) (by kernel_rfl) (fun _ _ _ h => h) (HBq.out.drew) (Or.inl ⟨by rfl, fun w' hS' => by go_simp⟩) ?_
        simp only [List.setIfInBounds_toArray, List.set_cons_zero, List.set_cons_succ]
        refine takeH_at 6 78 (.slice (some ⟨b, off + 3 * k, none⟩) 2 q) rfl rfl (by kernel_rfl) (by kernel_rfl) (by kernel_rfl) (fun _ _ _ h => h) (HBq.out.drew) (Or.inl ⟨by rfl, fun w' hS' => by go_simp⟩) ?_
        simp only [List.setIfInBounds_toArray, List.set_cons_zero, List.set_cons_succ]
        refine takeH_at 7 79 (.pointer (some ⟨b, off + 3 * k, none⟩)) rfl rfl (by kernel_rfl) (by kernel_rfl) (by kernel_rfl) (fun _ _ _ h => h) (HBq.out.drew) (Or.inl ⟨by rfl, fun w' hS' => by go_simp⟩) ?_
        simp only [List.setIfInBounds_toArray, List.set_cons_zero, List.set_cons_succ]
        refine takeH_at 8 80 (.int .u8 (x)) rfl rfl (by kernel_rfl) (by kernel_rfl) (by kernel_rfl) (fun _ _ _ h => h) (HBq.out.drew) (Or.inl ⟨by rfl, fun w' hS' => by have g : w'.cell? ⟨b, off + 3 * k, none⟩ = some (.int .u8 x) := (hS'.cell hblk).trans g0; go_simp⟩) ?_
        simp only [List.setIfInBounds_toArray, List.set_cons_zero, List.set_cons_succ]
        refine takeH_at 9 81 (.int .u8 (x % 4)) rfl rfl (by kernel_rfl) (by kernel_rfl) (by kernel_rfl) (fun _ _ _ h => h) (HBq.out.drew) (Or.inl ⟨by rfl, fun w' hS' => by go_simp⟩) ?_
        simp only [List.setIfInBounds_toArray, List.set_cons_zero, List.set_cons_succ]
        refine takeH_at 10 82 (.int .u8 (x % 4 * 16)) rfl rfl (by kernel_rfl) (by kernel_rfl) (by kernel_rfl) (fun _ _ _ h => h) (HBq.out.drew) (Or.inl ⟨by rfl, fun w' hS' => by go_simp⟩) ?_
        simp only [List.setIfInBounds_toArray, List.set_cons_zero, List.set_cons_succ]
        refine takeH_at 11 83 (.slice (some ⟨b, off + 3 * k, none⟩) 2 q) rfl rfl (by kernel_rfl) (by kernel_rfl) (by kernel_rfl) (fun _ _ _ h => h) (HBq.out.drew) (Or.inl ⟨by rfl, fun w' hS' => by go_simp⟩) ?_
        simp only [List.setIfInBounds_toArray, List.set_cons_zero, List.set_cons_succ]
        refine takeH_at 12 84 (.pointer (some ⟨b, off + 3 * k + 1, none⟩)) rfl rfl (by kernel_rfl) (by kernel_rfl) (by kernel_rfl) (fun _ _ _ h => h) (HBq.out.drew) (Or.inl ⟨by rfl, fun w' hS' => by go_simp⟩) ?_
        simp only [List.setIfInBounds_toArray, List.set_cons_zero, List.set_cons_succ]
        refine takeH_at 13 85 (.int .u8 (y)) rfl rfl (by kernel_rfl) (by kernel_rfl) (by kernel_rfl) (fun _ _ _ h => h) (HBq.out.drew) (Or.inl ⟨by rfl, fun w' hS' => by have g : w'.cell? ⟨b, off + 3 * k + 1, none⟩ = some (.int .u8 y) := (hS'.cell hblk).trans g1; go_simp⟩) ?_
        simp only [List.setIfInBounds_toArray, List.set_cons_zero, List.set_cons_succ]
        refine takeH_at 14 86 (.int .u8 (y / 16)) rfl rfl (by kernel_rfl) (by kernel_rfl) (by kernel_rfl) (fun _ _ _ h => h) (HBq.out.drew) (Or.inl ⟨by rfl, fun w' hS' => by go_simp⟩) ?_
        simp only [List.setIfInBounds_toArray, List.set_cons_zero, List.set_cons_succ]
        refine takeH_at 15 87 (.int .u8 (x % 4 * 16 + y / 16)) rfl rfl (by kernel_rfl) (by kernel_rfl) (by kernel_rfl) (fun _ _ _ h => h) (HBq.out.drew) (Or.inl ⟨by rfl, fun w' hS' => by go_simp⟩) ?_
        simp only [List.setIfInBounds_toArray, List.set_cons_zero, List.set_cons_succ]
        refine takeH_at 16 88 (.int .u8 (letD (x % 4 * 16 + y / 16).toNat)) rfl rfl (by kernel_rfl) (by kernel_rfl) (by kernel_rfl) (fun _ _ _ h => h) (HBq.out.drew) (Or.inl ⟨by rfl, fun w' hS' => by go_simp⟩) ?_
        simp only [List.setIfInBounds_toArray, List.set_cons_zero, List.set_cons_succ]
        refine takeH_at 17 89 (.slice (some ⟨b, off + 3 * k, none⟩) 2 q) rfl rfl (by kernel_rfl) (by kernel_rfl) (by kernel_rfl) (fun _ _ _ h => h) (HBq.out.drew) (Or.inl ⟨by rfl, fun w' hS' => by go_simp⟩) ?_
        simp only [List.setIfInBounds_toArray, List.set_cons_zero, List.set_cons_succ]
        refine takeH_at 18 90 (.pointer (some ⟨b, off + 3 * k + 1, none⟩)) rfl rfl (by kernel_rfl) (by kernel_rfl) (by kernel_rfl) (fun _ _ _ h => h) (HBq.out.drew) (Or.inl ⟨by rfl, fun w' hS' => by go_simp⟩) ?_
        simp only [List.setIfInBounds_toArray, List.set_cons_zero, List.set_cons_succ]
        refine takeH_at 19 91 (.int .u8 (y)) rfl rfl (by kernel_rfl) (by kernel_rfl) (by kernel_rfl) (fun _ _ _ h => h) (HBq.out.drew) (Or.inl ⟨by rfl, fun w' hS' => by have g : w'.cell? ⟨b, off + 3 * k + 1, none⟩ = some (.int .u8 y) := (hS'.cell hblk).trans g1; go_simp⟩) ?_
        simp only [List.setIfInBounds_toArray, List.set_cons_zero, List.set_cons_succ]
        refine takeH_at 20 92 (.int .u8 (y % 16)) rfl rfl (by kernel_rfl) (by kernel_rfl) (by kernel_rfl) (fun _ _ _ h => h) (HBq.out.drew) (Or.inl ⟨by rfl, fun w' hS' => by go_simp⟩) ?_
        simp only [List.setIfInBounds_toArray, List.set_cons_zero, List.set_cons_succ]
        refine takeH_at 21 93 (.int .u8 (y % 16 * 4)) rfl rfl (by kernel_rfl) (by kernel_rfl) (by kernel_rfl) (fun _ _ _ h => h) (HBq.out.drew) (Or.inl ⟨by rfl, fun w' hS' => by go_simp⟩) ?_
        simp only [List.setIfInBounds_toArray, List.set_cons_zero, List.set_cons_succ]
        refine takeH_at 22 94 (.int .u8 (letD (y % 16 * 4).toNat)) rfl rfl (by kernel_rfl) (by kernel_rfl) (by kernel_rfl) (fun _ _ _ h => h) (HBq.out.drew) (Or.inl ⟨by rfl, fun w' hS' => by go_simp⟩) ?_
        simp only [List.setIfInBounds_toArray, List.set_cons_zero, List.set_cons_succ]
        refine wpAnyH_ready (rs := [23]) (by kernel_rfl) (by simp) ?_
        refine AllReadyH.cons rfl (fun K hK => ?_) AllReadyH.nil
        go_simp
        refine hK.out _ _ (HBq.out.alloc HBq.out.size _).drew (fun _ => ?_)
        clear hK K
        refine wpAnyH_ready (rs := [24]) (by kernel_rfl) (by simp) ?_
        refine AllReadyH.cons rfl (fun K hK => ?_) AllReadyH.nil
        refine step_append_lies _ (by rfl) _ _ _ (by rfl) w.heap.size 5 i0 (.int .u8 0) 1 1 Tryd.underlying22 hi hz0 hz1 hz2 (by rfl) (by decide) _ (4 * k) (cellsU8 (grps xs k)) (by rfl) (hownq.alloc _).drew ⟨wr.heap.size, 0, none⟩ 4 4 (cellsU8 [letD (x / 4).toNat, letD (x % 4 * 16 + y / 16).toNat, letD (y % 16 * 4).toNat, 61]) (by rfl) (by rfl) (World.news_of_block (heap_alloc_new wr _)) (cellsU8_one _) (by decide) (by have := HN.out; unfold maxLen; omega) (by have := HN.out; omega) (by have := HBq.out.size; simp; omega) (wr.heap.size + 1) (by simp) ?_
        intro g cp w2 hown3 hgrow2 hat hglt
        have hb3 : Below w.heap.size w w2 := (HBq.out.alloc HBq.out.size _).drew.grown hgrow2 (by have := HBq.out.size; simp; omega) (fun q hq => (hownq.lt q hq).1)
        refine hK.out _ _ hb3 (fun _ => ?_)
        clear hK K
        change wpAnyH _ _ _ _ _ _ _ ⟨Array.setIfInBounds _ 96 _, _⟩ _
        simp only [List.setIfInBounds_toArray, List.set_cons_zero, List.set_cons_succ]
        refine takeH_at 25 3 (.slice (some ⟨g, 0, none⟩) (4 * k + 4) cp) rfl rfl (by kernel_rfl) (by kernel_rfl) (by kernel_rfl) (fun _ _ _ h => h) (hb3) (Or.inl ⟨by rfl, fun w' hS' => by go_simp⟩) ?_
        simp only [List.setIfInBounds_toArray, List.set_cons_zero, List.set_cons_succ]
        refine wpAnyH_done (by kernel_rfl) ?_ _
        refine NoPanic.normal ?_
        have HB3 : Hid (Below w.heap.size w w2) := hb3
        have hbk := back_any w2 (4 * k + 4) w.heap.size (.slice (some ⟨g, 0, none⟩) (4 * k + 4) cp) (grps xs k ++ [letD (x / 4).toNat, letD (x % 4 * 16 + y / 16).toNat, letD (y % 16 * 4).toNat, 61]) (by rw [List.length_append, grps_length]; rfl) (by rw [cellsU8_append]; exact hown3)
        rw [← hend] at hbk
        clear hown3 hgrow2 hat hglt hownq HBq hb3 hend hD
        go_wp2
        go_ret
        exact ⟨rfl, HB3⟩
end Go.Proofs.YtioggmjocelolacDoor
