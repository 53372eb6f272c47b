import Derived.Test.YtcopkohklgbpgabDoorPart03
import Derived.Test.YtcopkohklgbpgabDoorPart00
import Derived.Lib.SliceRun
import Derived.Deep.Cut
import Derived.Deep.CutRange
import Derived.Deep.RegionHeld3
namespace Go.Proofs.YtcopkohklgbpgabDoor
open Go.RowKit
set_option linter.unusedVariables false
set_option linter.unusedSimpArgs false
theorem owns_some {w : World} {B n : Nat} {v : Value} {cs : List Value} (h : w.ownsRow B 5 1 v n cs) (h0 : 0 < n) : ∃ g c, v = .slice (some ⟨g, 0, none⟩) n c := by
  rcases h.2 with ⟨_, e⟩ | ⟨g, c, cur, rfl, _⟩
  · omega
  · exact ⟨g, c, rfl⟩
theorem one_cell (w : World) (x : Int) (t : TypeId) : ∀ j u, [Value.int .u8 x][j]? = some u → (w.alloc (.cells #[.int .u8 x] t)).cell? ((⟨w.heap.size, 0, none⟩ : Addr).add j) = some u := by
  intro j u hj
  match j, hj with
  | 0, hj => simp at hj; subst hj; simp [Addr.add]
theorem one_one (x : Int) : ∀ u ∈ [Value.int .u8 x], u.oneCell' = true := by
  intro u hu; simp at hu; subst hu; rfl
/-- How many zeros. -/
def padK (bs n : Nat) : Nat := (bs - (n + 1 + bs / 8) % bs) % bs
/-- The number of bits, as bytes. -/
def bitsL (bs n : Nat) : List Int := (List.range (bs / 8)).map fun j => if 8 ≤ bs / 8 - 1 - j then 0 else ((n : Int) * 8) / 2 ^ (8 * (bs / 8 - 1 - j)) % 256
def laidL (bs : Nat) (zs : List Int) : List Int := zs ++ ([128] ++ List.replicate (padK bs zs.length) 0) ++ bitsL bs zs.length
theorem bitsL_length (bs n : Nat) : (bitsL bs n).length = bs / 8 := by simp [bitsL]
theorem bitsL_at (bs n j : Nat) (hj : j < bs / 8) : (bitsL bs n)[j]? = some (if 8 ≤ bs / 8 - 1 - j then 0 else ((n : Int) * 8) / 2 ^ (8 * (bs / 8 - 1 - j)) % 256) := by simp [bitsL, hj]
theorem laidL_length (bs : Nat) (zs : List Int) : (laidL bs zs).length = zs.length + 1 + padK bs zs.length + bs / 8 := by
  simp [laidL, bitsL_length]
  omega
set_option maxHeartbeats 1600000 in
set_option maxRecDepth 100000 in
theorem rlaid64_some (x : Addr) (cap : Nat) (zs : List Int) (n : Nat) (w : World) (hz : Hid (zs.length = n)) (hn : n ≤ 1099511627776) (h1 : Hid (∀ j u, (cellsU8 zs)[j]? = some u → w.cell? (x.add j) = some u)) :
    Calls Tryd.prog 47 #[.slice (some x) n cap, .int .i64 64] w fun e w' => ∃ v, e = .returned v ∧ w'.ownsRow w.heap.size 5 1 v (laidL 64 zs).length (cellsU8 (laidL 64 zs)) ∧ Below w.heap.size w w' := by
  obtain ⟨i0, hi, hz0, hz1, hz2⟩ := info_parts Tryd.info5
  go_enter Tryd.func47, Tryd.ntmps47
  go_wp2_with (first
    | (at_builtin; go_must (refine wpList_append_own _ rfl (.tmp 8) (.tmp 9) 22 rfl w.heap.size 5 i0 (.int .u8 0) 1 1 Tryd.underlying22 hi hz0 hz1 hz2 rfl (by decide) _ 0 [] rfl (World.ownsRow_nil _ _ _ _) x n cap (cellsU8 zs) rfl ?_ h1.out (cellsU8_one zs) ?_ ?_ (Nat.le_refl _) ?_)))
  · rw [cellsU8_length, hz.out, Nat.mul_one]
  · unfold maxLen; omega
  · omega
  intro v1 w1 hown hgrow hnil
  have HB : Hid (Below w.heap.size w w1) := (Below.refl _ _).grown hgrow (Nat.le_refl _) (by intro k hk; cases hk)
  have hown1 : w1.ownsRow w.heap.size 5 1 v1 n (cellsU8 zs) := by simpa using hown
  clear hgrow hown hnil
  go_wp2_with (first
    | (at_builtin; go_must (refine wpList_append_own _ rfl (.tmp 11) (.tmp 12) 22 rfl w.heap.size 5 i0 (.int .u8 0) 1 1 Tryd.underlying22 hi hz0 hz1 hz2 rfl (by decide) _ _ _ rfl (hown1.alloc _) ⟨w1.heap.size, 0, none⟩ 1 1 [.int .u8 128] rfl rfl (one_cell _ _ _) (one_one _) (by unfold maxLen; omega) (by omega) (by have := HB.out.size; rw [size_alloc]; omega) ?_)))
  intro v2 w2 hown2 hgrow2 hnil2
  have HB2 : Hid (Below w.heap.size w w2) := (HB.out.alloc HB.out.size _).grown hgrow2 (by have := HB.out.size; rw [size_alloc]; omega) (fun q hq => (hown1.lt q hq).1)
  have ho2 : w2.ownsRow w.heap.size 5 1 v2 (n + 1) (cellsU8 (zs ++ [128])) := by
    have e : cellsU8 (zs ++ [128]) = cellsU8 (zs) ++ [.int .u8 128] := by simp [cellsU8, List.replicate_succ']
    rw [e]
    simpa [Nat.add_assoc] using hown2
  clear hown2 hgrow2 hnil2
  obtain ⟨g2, c2, rfl⟩ := owns_some ho2 (by omega)
  have HO2 : Hid (w2.ownsRow w.heap.size 5 1 (.slice (some ⟨g2, 0, none⟩) (n + 1) c2) (n + 1) (cellsU8 (zs ++ [128]))) := ho2
  have HK : Hid (padK 64 n < 64 ∧ (n + 1 + padK 64 n + 8) % 64 = 0) := by unfold padK; exact ⟨by omega, by omega⟩
  obtain ⟨K, hK⟩ : ∃ K, Hid (K = padK 64 n) := ⟨_, rfl⟩
  rw [← hK.out] at HK
  clear ho2 hown1 HB
  go_wp2
  go_loopw [5] (fun v wr => ∃ k l g c : Nat, Hid (k ≤ K ∧ l = n + 1 + k) ∧ v = .slice (some ⟨g, 0, none⟩) l c ∧ Hid (wr.ownsRow w.heap.size 5 1 (.slice (some ⟨g, 0, none⟩) l c) l (cellsU8 (zs ++ ([128] ++ List.replicate k 0)))) ∧ Hid (Below w.heap.size w wr)) (fun v _ => n + 1 + K - lenOf v)
  case atStart => exact ⟨0, n + 1, g2, c2, ⟨by omega, rfl⟩, rfl, HO2, HB2⟩
  case round =>
    obtain ⟨k, l, g, c, HL, rfl, HO3, HB3⟩ := hrel
    clear HO2 HB2
    have hlw : IntKind.i64.wrap ((l : Int) + 8) = (l : Int) + 8 := by
      have := HL.out; have := HK.out
      rw [IntKind.wrap_i64]
      omega
    by_cases hlt : k < K
    · have d1 : ¬ ((l : Int) + 8) % 64 = 0 := by
        have := HL.out; have := HK.out
        omega
      have hl0 : 0 < l := by have := HL.out; omega
      have hl1 : l ≤ 1099511628000 := by have := HL.out; have := HK.out; omega
      go_wp2_with (first
        | (at_builtin; go_must (refine wpList_append_own _ rfl (.tmp 22) (.tmp 23) 22 rfl w.heap.size 5 i0 (.int .u8 0) 1 1 Tryd.underlying22 hi hz0 hz1 hz2 rfl (by decide) _ _ _ rfl (HO3.out.alloc _) ⟨wr.heap.size, 0, none⟩ 1 1 [.int .u8 0] rfl rfl (one_cell _ _ _) (one_one _) (by unfold maxLen; omega) (by omega) (by have := HB3.out.size; rw [size_alloc]; omega) ?_)))
      intro v4 w4 hown4 hgrow4 hnil4
      have HB4 : Hid (Below w.heap.size w w4) := (HB3.out.alloc HB3.out.size _).grown hgrow4 (by have := HB3.out.size; rw [size_alloc]; omega) (fun q hq => (HO3.out.lt q hq).1)
      have ho4 : w4.ownsRow w.heap.size 5 1 v4 (l + 1) (cellsU8 (zs ++ ([128] ++ List.replicate (k + 1) 0))) := by
        have e : cellsU8 (zs ++ ([128] ++ List.replicate (k + 1) 0)) = cellsU8 (zs ++ ([128] ++ List.replicate k 0)) ++ [.int .u8 0] := by simp [cellsU8, List.replicate_succ']
        rw [e]
        simpa [Nat.add_assoc] using hown4
      clear hown4 hgrow4 hnil4
      obtain ⟨g4, c4, rfl⟩ := owns_some ho4 (by omega)
      have HO4 : Hid (w4.ownsRow w.heap.size 5 1 (.slice (some ⟨g4, 0, none⟩) (l + 1) c4) (l + 1) (cellsU8 (zs ++ ([128] ++ List.replicate (k + 1) 0)))) := ho4
      clear ho4 HO3 HB3
      go_wp2
      go_roundw
      case rel => exact ⟨k + 1, l + 1, g4, c4, ⟨by omega, by have := HL.out; omega⟩, rfl, HO4, HB4⟩
      case measure => have := HL.out; simp [lenOf]; omega
    · have d1 : ((l : Int) + 8) % 64 = 0 := by
        have := HL.out; have := HK.out
        omega
      have hkK : k = K := by have := HL.out; omega
      have hbits : IntKind.u64.wrap ((n : Int) * 8) = (n : Int) * 8 := by
        rw [IntKind.wrap_u64]
        omega
      have hl1 : l ≤ 1099511628000 := by have := HL.out; have := HK.out; omega
      go_wp2
      obtain rfl := hkK
      clear d1 hlt hlw
      go_loopw [5, 7] (fun v vi wr => ∃ m l2 g c : Nat, Hid (m ≤ 8 ∧ l2 = l + (8 - m)) ∧ vi = .int .i64 ((m : Int) - 1) ∧ v = .slice (some ⟨g, 0, none⟩) l2 c ∧ Hid (wr.ownsRow w.heap.size 5 1 (.slice (some ⟨g, 0, none⟩) l2 c) l2 (cellsU8 (zs ++ ([128] ++ List.replicate k 0) ++ (bitsL 64 n).take (8 - m)))) ∧ Hid (Below w.heap.size w wr)) (fun _ vi _ => (intOf vi + 1).toNat)
      case atStart => exact ⟨8, l, g, c, ⟨by omega, by omega⟩, rfl, rfl, (by simpa using HO3.out : World.ownsRow _ _ _ _ _ _ _), HB3⟩
      case round =>
        obtain ⟨m, l2, g5, c5, HL2, rfl, rfl, HO5, HB5⟩ := hrel
        clear HO3 HB3
        rcases m with _ | i
        · rw [show ((0 : Nat) : Int) - 1 = -1 from rfl]
          go_wp2
          go_ret
          refine ⟨_, rfl, ?_, HB5.out⟩
          have hl2 : l2 = (laidL 64 zs).length := by
            rw [laidL_length, hz.out]
            have h1 := HL2.out; have h2 := HL.out; have h3 := hK.out
            unfold padK at h3 ⊢
            omega
          have hc : cellsU8 (laidL 64 zs) = cellsU8 (zs ++ ([128] ++ List.replicate k 0) ++ (bitsL 64 n).take (8 - 0)) := by
            have h3 := hK.out
            rw [laidL, hz.out, ← h3, List.take_of_length_le (by rw [bitsL_length]; omega)]
          rw [← hl2, hc]
          exact HO5.out
        · rw [show ((i + 1 : Nat) : Int) - 1 = (i : Int) by omega]
          have hi8 : i < 8 := by have := HL2.out; omega
          have hl0 : 0 < l2 := by have := HL.out; have := HL2.out; omega
          have hl3 : l2 ≤ 1099511628100 := by have := HL2.out; omega
          have hw1 : IntKind.i64.wrap (8 * (i : Int)) = 8 * (i : Int) := by rw [IntKind.wrap_i64]; omega
          have hw2 : IntKind.u64.wrap (8 * (i : Int)) = 8 * (i : Int) := by rw [IntKind.wrap_u64]; omega
          have h8 : ¬ 8 ≤ i := by omega
          have d8 : ¬ (8 : Int) ≤ (i : Int) := by omega
          go_wp2_with (first
            | (at_builtin; go_must (refine wpList_append_own _ rfl (.tmp 41) (.tmp 48) 22 rfl w.heap.size 5 i0 (.int .u8 0) 1 1 Tryd.underlying22 hi hz0 hz1 hz2 rfl (by decide) _ _ _ rfl (HO5.out.alloc _) ⟨wr.heap.size, 0, none⟩ 1 1 [.int .u8 (((n : Int) * 8) / 2 ^ (8 * i) % 256)] rfl rfl (one_cell _ _ _) (one_one _) (by unfold maxLen; omega) (by omega) (by have := HB5.out.size; rw [size_alloc]; omega) ?_)))
          intro v6 w6 hown6 hgrow6 hnil6
          have HB6 : Hid (Below w.heap.size w w6) := (HB5.out.alloc HB5.out.size _).grown hgrow6 (by have := HB5.out.size; rw [size_alloc]; omega) (fun q hq => (HO5.out.lt q hq).1)
          have ho6 : w6.ownsRow w.heap.size 5 1 v6 (l2 + 1) (cellsU8 (zs ++ ([128] ++ List.replicate k 0) ++ (bitsL 64 n).take (8 - i))) := by
            have e : cellsU8 (zs ++ ([128] ++ List.replicate k 0) ++ (bitsL 64 n).take (8 - i)) = cellsU8 (zs ++ ([128] ++ List.replicate k 0) ++ (bitsL 64 n).take (8 - (i + 1))) ++ [.int .u8 (((n : Int) * 8) / 2 ^ (8 * i) % 256)] := by rw [show 8 - i = 8 - (i + 1) + 1 by omega, List.take_add_one, bitsL_at 64 n (8 - (i + 1)) (by omega), show 64 / 8 - 1 - (8 - (i + 1)) = i by omega, if_neg h8]; simp [cellsU8]
            rw [e]
            simpa [Nat.add_assoc] using hown6
          clear hown6 hgrow6 hnil6
          obtain ⟨g6, c6, rfl⟩ := owns_some ho6 (by omega)
          have HO6 : Hid (w6.ownsRow w.heap.size 5 1 (.slice (some ⟨g6, 0, none⟩) (l2 + 1) c6) (l2 + 1) (cellsU8 (zs ++ ([128] ++ List.replicate k 0) ++ (bitsL 64 n).take (8 - i)))) := ho6
          clear ho6 HO5 HB5
          go_wp2
          go_roundw
          case rel => exact ⟨i, l2 + 1, g6, c6, ⟨by omega, by have := HL2.out; omega⟩, rfl, rfl, HO6, HB6⟩
          case measure => simp [intOf]
set_option maxHeartbeats 1600000 in
set_option maxRecDepth 100000 in
theorem rlaid64_none (cap : Nat) (zs : List Int) (n : Nat) (w : World) (hz : Hid (zs.length = n)) (hn : n ≤ 1099511627776) (h0 : Hid (n = 0 ∧ cap = 0)) :
    Calls Tryd.prog 47 #[.slice none n cap, .int .i64 64] w fun e w' => ∃ v, e = .returned v ∧ w'.ownsRow w.heap.size 5 1 v (laidL 64 zs).length (cellsU8 (laidL 64 zs)) ∧ Below w.heap.size w w' := by
  obtain ⟨i0, hi, hz0, hz1, hz2⟩ := info_parts Tryd.info5
  go_enter Tryd.func47, Tryd.ntmps47
  go_upto_region 3 with (first
    | (at_builtin; go_must (refine wpList_append_own_none rfl (.tmp 8) (.tmp 9) 22 rfl w.heap.size 5 i0 1 Tryd.underlying22 hi _ 0 [] rfl (World.ownsRow_nil _ _ _ _) (by show Value.slice none n cap = _; rw [h0.out.1, h0.out.2]) ?_)))
  have HB : Hid (Below w.heap.size w w) := Below.refl _ _
  have hown1 : w.ownsRow w.heap.size 5 1 (.slice none 0 0) n (cellsU8 zs) := by
    have hz1 := hz.out
    rw [h0.out.1] at hz1 ⊢
    rw [List.eq_nil_of_length_eq_zero hz1]
    exact World.ownsRow_nil _ _ _ _
  go_wp2_with (first
    | (at_builtin; go_must (refine wpList_append_own _ rfl (.tmp 11) (.tmp 12) 22 rfl w.heap.size 5 i0 (.int .u8 0) 1 1 Tryd.underlying22 hi hz0 hz1 hz2 rfl (by decide) _ _ _ rfl (hown1.alloc _) ⟨w.heap.size, 0, none⟩ 1 1 [.int .u8 128] rfl rfl (one_cell _ _ _) (one_one _) (by unfold maxLen; omega) (by omega) (by have := HB.out.size; rw [size_alloc]; omega) ?_)))
  intro v2 w2 hown2 hgrow2 hnil2
  have HB2 : Hid (Below w.heap.size w w2) := (HB.out.alloc HB.out.size _).grown hgrow2 (by have := HB.out.size; rw [size_alloc]; omega) (fun q hq => (hown1.lt q hq).1)
  have ho2 : w2.ownsRow w.heap.size 5 1 v2 (n + 1) (cellsU8 (zs ++ [128])) := by
    have e : cellsU8 (zs ++ [128]) = cellsU8 (zs) ++ [.int .u8 128] := by simp [cellsU8, List.replicate_succ']
    rw [e]
    simpa [Nat.add_assoc] using hown2
  clear hown2 hgrow2 hnil2
  obtain ⟨g2, c2, rfl⟩ := owns_some ho2 (by omega)
  have HO2 : Hid (w2.ownsRow w.heap.size 5 1 (.slice (some ⟨g2, 0, none⟩) (n + 1) c2) (n + 1) (cellsU8 (zs ++ [128]))) := ho2
  have HK : Hid (padK 64 n < 64 ∧ (n + 1 + padK 64 n + 8) % 64 = 0) := by unfold padK; exact ⟨by omega, by omega⟩
  obtain ⟨K, hK⟩ : ∃ K, Hid (K = padK 64 n) := ⟨_, rfl⟩
  rw [← hK.out] at HK
  clear ho2 hown1 HB
  go_wp2
  go_loopw [5] (fun v wr => ∃ k l g c : Nat, Hid (k ≤ K ∧ l = n + 1 + k) ∧ v = .slice (some ⟨g, 0, none⟩) l c ∧ Hid (wr.ownsRow w.heap.size 5 1 (.slice (some ⟨g, 0, none⟩) l c) l (cellsU8 (zs ++ ([128] ++ List.replicate k 0)))) ∧ Hid (Below w.heap.size w wr)) (fun v _ => n + 1 + K - lenOf v)
  case atStart => exact ⟨0, n + 1, g2, c2, ⟨by omega, rfl⟩, rfl, HO2, HB2⟩
  case round =>
    obtain ⟨k, l, g, c, HL, rfl, HO3, HB3⟩ := hrel
    clear HO2 HB2
    have hlw : IntKind.i64.wrap ((l : Int) + 8) = (l : Int) + 8 := by
      have := HL.out; have := HK.out
      rw [IntKind.wrap_i64]
      omega
    by_cases hlt : k < K
    · have d1 : ¬ ((l : Int) + 8) % 64 = 0 := by
        have := HL.out; have := HK.out
        omega
      have hl0 : 0 < l := by have := HL.out; omega
      have hl1 : l ≤ 1099511628000 := by have := HL.out; have := HK.out; omega
      go_wp2_with (first
        | (at_builtin; go_must (refine wpList_append_own _ rfl (.tmp 22) (.tmp 23) 22 rfl w.heap.size 5 i0 (.int .u8 0) 1 1 Tryd.underlying22 hi hz0 hz1 hz2 rfl (by decide) _ _ _ rfl (HO3.out.alloc _) ⟨wr.heap.size, 0, none⟩ 1 1 [.int .u8 0] rfl rfl (one_cell _ _ _) (one_one _) (by unfold maxLen; omega) (by omega) (by have := HB3.out.size; rw [size_alloc]; omega) ?_)))
      intro v4 w4 hown4 hgrow4 hnil4
      have HB4 : Hid (Below w.heap.size w w4) := (HB3.out.alloc HB3.out.size _).grown hgrow4 (by have := HB3.out.size; rw [size_alloc]; omega) (fun q hq => (HO3.out.lt q hq).1)
      have ho4 : w4.ownsRow w.heap.size 5 1 v4 (l + 1) (cellsU8 (zs ++ ([128] ++ List.replicate (k + 1) 0))) := by
        have e : cellsU8 (zs ++ ([128] ++ List.replicate (k + 1) 0)) = cellsU8 (zs ++ ([128] ++ List.replicate k 0)) ++ [.int .u8 0] := by simp [cellsU8, List.replicate_succ']
        rw [e]
        simpa [Nat.add_assoc] using hown4
      clear hown4 hgrow4 hnil4
      obtain ⟨g4, c4, rfl⟩ := owns_some ho4 (by omega)
      have HO4 : Hid (w4.ownsRow w.heap.size 5 1 (.slice (some ⟨g4, 0, none⟩) (l + 1) c4) (l + 1) (cellsU8 (zs ++ ([128] ++ List.replicate (k + 1) 0)))) := ho4
      clear ho4 HO3 HB3
      go_wp2
      go_roundw
      case rel => exact ⟨k + 1, l + 1, g4, c4, ⟨by omega, by have := HL.out; omega⟩, rfl, HO4, HB4⟩
      case measure => have := HL.out; simp [lenOf]; omega
    · have d1 : ((l : Int) + 8) % 64 = 0 := by
        have := HL.out; have := HK.out
        omega
      have hkK : k = K := by have := HL.out; omega
      have hbits : IntKind.u64.wrap ((n : Int) * 8) = (n : Int) * 8 := by
        rw [IntKind.wrap_u64]
        omega
      have hl1 : l ≤ 1099511628000 := by have := HL.out; have := HK.out; omega
      go_wp2
      obtain rfl := hkK
      clear d1 hlt hlw
      go_loopw [5, 7] (fun v vi wr => ∃ m l2 g c : Nat, Hid (m ≤ 8 ∧ l2 = l + (8 - m)) ∧ vi = .int .i64 ((m : Int) - 1) ∧ v = .slice (some ⟨g, 0, none⟩) l2 c ∧ Hid (wr.ownsRow w.heap.size 5 1 (.slice (some ⟨g, 0, none⟩) l2 c) l2 (cellsU8 (zs ++ ([128] ++ List.replicate k 0) ++ (bitsL 64 n).take (8 - m)))) ∧ Hid (Below w.heap.size w wr)) (fun _ vi _ => (intOf vi + 1).toNat)
      case atStart => exact ⟨8, l, g, c, ⟨by omega, by omega⟩, rfl, rfl, (by simpa using HO3.out : World.ownsRow _ _ _ _ _ _ _), HB3⟩
      case round =>
        obtain ⟨m, l2, g5, c5, HL2, rfl, rfl, HO5, HB5⟩ := hrel
        clear HO3 HB3
        rcases m with _ | i
        · rw [show ((0 : Nat) : Int) - 1 = -1 from rfl]
          go_wp2
          go_ret
          refine ⟨_, rfl, ?_, HB5.out⟩
          have hl2 : l2 = (laidL 64 zs).length := by
            rw [laidL_length, hz.out]
            have h1 := HL2.out; have h2 := HL.out; have h3 := hK.out
            unfold padK at h3 ⊢
            omega
          have hc : cellsU8 (laidL 64 zs) = cellsU8 (zs ++ ([128] ++ List.replicate k 0) ++ (bitsL 64 n).take (8 - 0)) := by
            have h3 := hK.out
            rw [laidL, hz.out, ← h3, List.take_of_length_le (by rw [bitsL_length]; omega)]
          rw [← hl2, hc]
          exact HO5.out
        · rw [show ((i + 1 : Nat) : Int) - 1 = (i : Int) by omega]
          have hi8 : i < 8 := by have := HL2.out; omega
          have hl0 : 0 < l2 := by have := HL.out; have := HL2.out; omega
          have hl3 : l2 ≤ 1099511628100 := by have := HL2.out; omega
          have hw1 : IntKind.i64.wrap (8 * (i : Int)) = 8 * (i : Int) := by rw [IntKind.wrap_i64]; omega
          have hw2 : IntKind.u64.wrap (8 * (i : Int)) = 8 * (i : Int) := by rw [IntKind.wrap_u64]; omega
          have h8 : ¬ 8 ≤ i := by omega
          have d8 : ¬ (8 : Int) ≤ (i : Int) := by omega
          go_wp2_with (first
            | (at_builtin; go_must (refine wpList_append_own _ rfl (.tmp 41) (.tmp 48) 22 rfl w.heap.size 5 i0 (.int .u8 0) 1 1 Tryd.underlying22 hi hz0 hz1 hz2 rfl (by decide) _ _ _ rfl (HO5.out.alloc _) ⟨wr.heap.size, 0, none⟩ 1 1 [.int .u8 (((n : Int) * 8) / 2 ^ (8 * i) % 256)] rfl rfl (one_cell _ _ _) (one_one _) (by unfold maxLen; omega) (by omega) (by have := HB5.out.size; rw [size_alloc]; omega) ?_)))
          intro v6 w6 hown6 hgrow6 hnil6
          have HB6 : Hid (Below w.heap.size w w6) := (HB5.out.alloc HB5.out.size _).grown hgrow6 (by have := HB5.out.size; rw [size_alloc]; omega) (fun q hq => (HO5.out.lt q hq).1)
          have ho6 : w6.ownsRow w.heap.size 5 1 v6 (l2 + 1) (cellsU8 (zs ++ ([128] ++ List.replicate k 0) ++ (bitsL 64 n).take (8 - i))) := by
            have e : cellsU8 (zs ++ ([128] ++ List.replicate k 0) ++ (bitsL 64 n).take (8 - i)) = cellsU8 (zs ++ ([128] ++ List.replicate k 0) ++ (bitsL 64 n).take (8 - (i + 1))) ++ [.int .u8 (((n : Int) * 8) / 2 ^ (8 * i) % 256)] := by rw [show 8 - i = 8 - (i + 1) + 1 by omega, List.take_add_one, bitsL_at 64 n (8 - (i + 1)) (by omega), show 64 / 8 - 1 - (8 - (i + 1)) = i by omega, if_neg h8]; simp [cellsU8]
            rw [e]
            simpa [Nat.add_assoc] using hown6
          clear hown6 hgrow6 hnil6
          obtain ⟨g6, c6, rfl⟩ := owns_some ho6 (by omega)
          have HO6 : Hid (w6.ownsRow w.heap.size 5 1 (.slice (some ⟨g6, 0, none⟩) (l2 + 1) c6) (l2 + 1) (cellsU8 (zs ++ ([128] ++ List.replicate k 0) ++ (bitsL 64 n).take (8 - i)))) := ho6
          clear ho6 HO5 HB5
          go_wp2
          go_roundw
          case rel => exact ⟨i, l2 + 1, g6, c6, ⟨by omega, by have := HL2.out; omega⟩, rfl, rfl, HO6, HB6⟩
          case measure => simp [intOf]
set_option maxHeartbeats 1600000 in
set_option maxRecDepth 100000 in
theorem rlaid128_some (x : Addr) (cap : Nat) (zs : List Int) (n : Nat) (w : World) (hz : Hid (zs.length = n)) (hn : n ≤ 1099511627776) (h1 : Hid (∀ j u, (cellsU8 zs)[j]? = some u → w.cell? (x.add j) = some u)) :
    Calls Tryd.prog 47 #[.slice (some x) n cap, .int .i64 128] w fun e w' => ∃ v, e = .returned v ∧ w'.ownsRow w.heap.size 5 1 v (laidL 128 zs).length (cellsU8 (laidL 128 zs)) ∧ Below w.heap.size w w' := by
  obtain ⟨i0, hi, hz0, hz1, hz2⟩ := info_parts Tryd.info5
  go_enter Tryd.func47, Tryd.ntmps47
  go_wp2_with (first
    | (at_builtin; go_must (refine wpList_append_own _ rfl (.tmp 8) (.tmp 9) 22 rfl w.heap.size 5 i0 (.int .u8 0) 1 1 Tryd.underlying22 hi hz0 hz1 hz2 rfl (by decide) _ 0 [] rfl (World.ownsRow_nil _ _ _ _) x n cap (cellsU8 zs) rfl ?_ h1.out (cellsU8_one zs) ?_ ?_ (Nat.le_refl _) ?_)))
  · rw [cellsU8_length, hz.out, Nat.mul_one]
  · unfold maxLen; omega
  · omega
  intro v1 w1 hown hgrow hnil
  have HB : Hid (Below w.heap.size w w1) := (Below.refl _ _).grown hgrow (Nat.le_refl _) (by intro k hk; cases hk)
  have hown1 : w1.ownsRow w.heap.size 5 1 v1 n (cellsU8 zs) := by simpa using hown
  clear hgrow hown hnil
  go_wp2_with (first
    | (at_builtin; go_must (refine wpList_append_own _ rfl (.tmp 11) (.tmp 12) 22 rfl w.heap.size 5 i0 (.int .u8 0) 1 1 Tryd.underlying22 hi hz0 hz1 hz2 rfl (by decide) _ _ _ rfl (hown1.alloc _) ⟨w1.heap.size, 0, none⟩ 1 1 [.int .u8 128] rfl rfl (one_cell _ _ _) (one_one _) (by unfold maxLen; omega) (by omega) (by have := HB.out.size; rw [size_alloc]; omega) ?_)))
  intro v2 w2 hown2 hgrow2 hnil2
  have HB2 : Hid (Below w.heap.size w w2) := (HB.out.alloc HB.out.size _).grown hgrow2 (by have := HB.out.size; rw [size_alloc]; omega) (fun q hq => (hown1.lt q hq).1)
  have ho2 : w2.ownsRow w.heap.size 5 1 v2 (n + 1) (cellsU8 (zs ++ [128])) := by
    have e : cellsU8 (zs ++ [128]) = cellsU8 (zs) ++ [.int .u8 128] := by simp [cellsU8, List.replicate_succ']
    rw [e]
    simpa [Nat.add_assoc] using hown2
  clear hown2 hgrow2 hnil2
  obtain ⟨g2, c2, rfl⟩ := owns_some ho2 (by omega)
  have HO2 : Hid (w2.ownsRow w.heap.size 5 1 (.slice (some ⟨g2, 0, none⟩) (n + 1) c2) (n + 1) (cellsU8 (zs ++ [128]))) := ho2
  have HK : Hid (padK 128 n < 128 ∧ (n + 1 + padK 128 n + 16) % 128 = 0) := by unfold padK; exact ⟨by omega, by omega⟩
  obtain ⟨K, hK⟩ : ∃ K, Hid (K = padK 128 n) := ⟨_, rfl⟩
  rw [← hK.out] at HK
  clear ho2 hown1 HB
  go_wp2
  go_loopw [5] (fun v wr => ∃ k l g c : Nat, Hid (k ≤ K ∧ l = n + 1 + k) ∧ v = .slice (some ⟨g, 0, none⟩) l c ∧ Hid (wr.ownsRow w.heap.size 5 1 (.slice (some ⟨g, 0, none⟩) l c) l (cellsU8 (zs ++ ([128] ++ List.replicate k 0)))) ∧ Hid (Below w.heap.size w wr)) (fun v _ => n + 1 + K - lenOf v)
  case atStart => exact ⟨0, n + 1, g2, c2, ⟨by omega, rfl⟩, rfl, HO2, HB2⟩
  case round =>
    obtain ⟨k, l, g, c, HL, rfl, HO3, HB3⟩ := hrel
    clear HO2 HB2
    have hlw : IntKind.i64.wrap ((l : Int) + 16) = (l : Int) + 16 := by
      have := HL.out; have := HK.out
      rw [IntKind.wrap_i64]
      omega
    by_cases hlt : k < K
    · have d1 : ¬ ((l : Int) + 16) % 128 = 0 := by
        have := HL.out; have := HK.out
        omega
      have hl0 : 0 < l := by have := HL.out; omega
      have hl1 : l ≤ 1099511628000 := by have := HL.out; have := HK.out; omega
      go_wp2_with (first
        | (at_builtin; go_must (refine wpList_append_own _ rfl (.tmp 22) (.tmp 23) 22 rfl w.heap.size 5 i0 (.int .u8 0) 1 1 Tryd.underlying22 hi hz0 hz1 hz2 rfl (by decide) _ _ _ rfl (HO3.out.alloc _) ⟨wr.heap.size, 0, none⟩ 1 1 [.int .u8 0] rfl rfl (one_cell _ _ _) (one_one _) (by unfold maxLen; omega) (by omega) (by have := HB3.out.size; rw [size_alloc]; omega) ?_)))
      intro v4 w4 hown4 hgrow4 hnil4
      have HB4 : Hid (Below w.heap.size w w4) := (HB3.out.alloc HB3.out.size _).grown hgrow4 (by have := HB3.out.size; rw [size_alloc]; omega) (fun q hq => (HO3.out.lt q hq).1)
      have ho4 : w4.ownsRow w.heap.size 5 1 v4 (l + 1) (cellsU8 (zs ++ ([128] ++ List.replicate (k + 1) 0))) := by
        have e : cellsU8 (zs ++ ([128] ++ List.replicate (k + 1) 0)) = cellsU8 (zs ++ ([128] ++ List.replicate k 0)) ++ [.int .u8 0] := by simp [cellsU8, List.replicate_succ']
        rw [e]
        simpa [Nat.add_assoc] using hown4
      clear hown4 hgrow4 hnil4
      obtain ⟨g4, c4, rfl⟩ := owns_some ho4 (by omega)
      have HO4 : Hid (w4.ownsRow w.heap.size 5 1 (.slice (some ⟨g4, 0, none⟩) (l + 1) c4) (l + 1) (cellsU8 (zs ++ ([128] ++ List.replicate (k + 1) 0)))) := ho4
      clear ho4 HO3 HB3
      go_wp2
      go_roundw
      case rel => exact ⟨k + 1, l + 1, g4, c4, ⟨by omega, by have := HL.out; omega⟩, rfl, HO4, HB4⟩
      case measure => have := HL.out; simp [lenOf]; omega
    · have d1 : ((l : Int) + 16) % 128 = 0 := by
        have := HL.out; have := HK.out
        omega
      have hkK : k = K := by have := HL.out; omega
      have hbits : IntKind.u64.wrap ((n : Int) * 8) = (n : Int) * 8 := by
        rw [IntKind.wrap_u64]
        omega
      have hl1 : l ≤ 1099511628000 := by have := HL.out; have := HK.out; omega
      go_wp2
      obtain rfl := hkK
      clear d1 hlt hlw
      go_loopw [5, 7] (fun v vi wr => ∃ m l2 g c : Nat, Hid (m ≤ 16 ∧ l2 = l + (16 - m)) ∧ vi = .int .i64 ((m : Int) - 1) ∧ v = .slice (some ⟨g, 0, none⟩) l2 c ∧ Hid (wr.ownsRow w.heap.size 5 1 (.slice (some ⟨g, 0, none⟩) l2 c) l2 (cellsU8 (zs ++ ([128] ++ List.replicate k 0) ++ (bitsL 128 n).take (16 - m)))) ∧ Hid (Below w.heap.size w wr)) (fun _ vi _ => (intOf vi + 1).toNat)
      case atStart => exact ⟨16, l, g, c, ⟨by omega, by omega⟩, rfl, rfl, (by simpa using HO3.out : World.ownsRow _ _ _ _ _ _ _), HB3⟩
      case round =>
        obtain ⟨m, l2, g5, c5, HL2, rfl, rfl, HO5, HB5⟩ := hrel
        clear HO3 HB3
        rcases m with _ | i
        · rw [show ((0 : Nat) : Int) - 1 = -1 from rfl]
          go_wp2
          go_ret
          refine ⟨_, rfl, ?_, HB5.out⟩
          have hl2 : l2 = (laidL 128 zs).length := by
            rw [laidL_length, hz.out]
            have h1 := HL2.out; have h2 := HL.out; have h3 := hK.out
            unfold padK at h3 ⊢
            omega
          have hc : cellsU8 (laidL 128 zs) = cellsU8 (zs ++ ([128] ++ List.replicate k 0) ++ (bitsL 128 n).take (16 - 0)) := by
            have h3 := hK.out
            rw [laidL, hz.out, ← h3, List.take_of_length_le (by rw [bitsL_length]; omega)]
          rw [← hl2, hc]
          exact HO5.out
        · rw [show ((i + 1 : Nat) : Int) - 1 = (i : Int) by omega]
          have hi8 : i < 16 := by have := HL2.out; omega
          have hl0 : 0 < l2 := by have := HL.out; have := HL2.out; omega
          have hl3 : l2 ≤ 1099511628100 := by have := HL2.out; omega
          have hw1 : IntKind.i64.wrap (8 * (i : Int)) = 8 * (i : Int) := by rw [IntKind.wrap_i64]; omega
          have hw2 : IntKind.u64.wrap (8 * (i : Int)) = 8 * (i : Int) := by rw [IntKind.wrap_u64]; omega
          by_cases h8 : 8 ≤ i
          · have d8 : (8 : Int) ≤ (i : Int) := by omega
            go_wp2_with (first
              | (at_builtin; go_must (refine wpList_append_own _ rfl (.tmp 38) (.tmp 39) 22 rfl w.heap.size 5 i0 (.int .u8 0) 1 1 Tryd.underlying22 hi hz0 hz1 hz2 rfl (by decide) _ _ _ rfl (HO5.out.alloc _) ⟨wr.heap.size, 0, none⟩ 1 1 [.int .u8 0] rfl rfl (one_cell _ _ _) (one_one _) (by unfold maxLen; omega) (by omega) (by have := HB5.out.size; rw [size_alloc]; omega) ?_)))
            intro v6 w6 hown6 hgrow6 hnil6
            have HB6 : Hid (Below w.heap.size w w6) := (HB5.out.alloc HB5.out.size _).grown hgrow6 (by have := HB5.out.size; rw [size_alloc]; omega) (fun q hq => (HO5.out.lt q hq).1)
            have ho6 : w6.ownsRow w.heap.size 5 1 v6 (l2 + 1) (cellsU8 (zs ++ ([128] ++ List.replicate k 0) ++ (bitsL 128 n).take (16 - i))) := by
              have e : cellsU8 (zs ++ ([128] ++ List.replicate k 0) ++ (bitsL 128 n).take (16 - i)) = cellsU8 (zs ++ ([128] ++ List.replicate k 0) ++ (bitsL 128 n).take (16 - (i + 1))) ++ [.int .u8 0] := by rw [show 16 - i = 16 - (i + 1) + 1 by omega, List.take_add_one, bitsL_at 128 n (16 - (i + 1)) (by omega), show 128 / 8 - 1 - (16 - (i + 1)) = i by omega, if_pos h8]; simp [cellsU8]
              rw [e]
              simpa [Nat.add_assoc] using hown6
            clear hown6 hgrow6 hnil6
            obtain ⟨g6, c6, rfl⟩ := owns_some ho6 (by omega)
            have HO6 : Hid (w6.ownsRow w.heap.size 5 1 (.slice (some ⟨g6, 0, none⟩) (l2 + 1) c6) (l2 + 1) (cellsU8 (zs ++ ([128] ++ List.replicate k 0) ++ (bitsL 128 n).take (16 - i)))) := ho6
            clear ho6 HO5 HB5
            go_wp2
            go_roundw
            case rel => exact ⟨i, l2 + 1, g6, c6, ⟨by omega, by have := HL2.out; omega⟩, rfl, rfl, HO6, HB6⟩
            case measure => simp [intOf]
          · have d8 : ¬ (8 : Int) ≤ (i : Int) := by omega
            go_wp2_with (first
              | (at_builtin; go_must (refine wpList_append_own _ rfl (.tmp 41) (.tmp 48) 22 rfl w.heap.size 5 i0 (.int .u8 0) 1 1 Tryd.underlying22 hi hz0 hz1 hz2 rfl (by decide) _ _ _ rfl (HO5.out.alloc _) ⟨wr.heap.size, 0, none⟩ 1 1 [.int .u8 (((n : Int) * 8) / 2 ^ (8 * i) % 256)] rfl rfl (one_cell _ _ _) (one_one _) (by unfold maxLen; omega) (by omega) (by have := HB5.out.size; rw [size_alloc]; omega) ?_)))
            intro v6 w6 hown6 hgrow6 hnil6
            have HB6 : Hid (Below w.heap.size w w6) := (HB5.out.alloc HB5.out.size _).grown hgrow6 (by have := HB5.out.size; rw [size_alloc]; omega) (fun q hq => (HO5.out.lt q hq).1)
            have ho6 : w6.ownsRow w.heap.size 5 1 v6 (l2 + 1) (cellsU8 (zs ++ ([128] ++ List.replicate k 0) ++ (bitsL 128 n).take (16 - i))) := by
              have e : cellsU8 (zs ++ ([128] ++ List.replicate k 0) ++ (bitsL 128 n).take (16 - i)) = cellsU8 (zs ++ ([128] ++ List.replicate k 0) ++ (bitsL 128 n).take (16 - (i + 1))) ++ [.int .u8 (((n : Int) * 8) / 2 ^ (8 * i) % 256)] := by rw [show 16 - i = 16 - (i + 1) + 1 by omega, List.take_add_one, bitsL_at 128 n (16 - (i + 1)) (by omega), show 128 / 8 - 1 - (16 - (i + 1)) = i by omega, if_neg h8]; simp [cellsU8]
              rw [e]
              simpa [Nat.add_assoc] using hown6
            clear hown6 hgrow6 hnil6
            obtain ⟨g6, c6, rfl⟩ := owns_some ho6 (by omega)
            have HO6 : Hid (w6.ownsRow w.heap.size 5 1 (.slice (some ⟨g6, 0, none⟩) (l2 + 1) c6) (l2 + 1) (cellsU8 (zs ++ ([128] ++ List.replicate k 0) ++ (bitsL 128 n).take (16 - i)))) := ho6
            clear ho6 HO5 HB5
            go_wp2
            go_roundw
            case rel => exact ⟨i, l2 + 1, g6, c6, ⟨by omega, by have := HL2.out; omega⟩, rfl, rfl, HO6, HB6⟩
            case measure => simp [intOf]
set_option maxHeartbeats 1600000 in
set_option maxRecDepth 100000 in
theorem rlaid128_none (cap : Nat) (zs : List Int) (n : Nat) (w : World) (hz : Hid (zs.length = n)) (hn : n ≤ 1099511627776) (h0 : Hid (n = 0 ∧ cap = 0)) :
    Calls Tryd.prog 47 #[.slice none n cap, .int .i64 128] w fun e w' => ∃ v, e = .returned v ∧ w'.ownsRow w.heap.size 5 1 v (laidL 128 zs).length (cellsU8 (laidL 128 zs)) ∧ Below w.heap.size w w' := by
  obtain ⟨i0, hi, hz0, hz1, hz2⟩ := info_parts Tryd.info5
  go_enter Tryd.func47, Tryd.ntmps47
  go_upto_region 3 with (first
    | (at_builtin; go_must (refine wpList_append_own_none rfl (.tmp 8) (.tmp 9) 22 rfl w.heap.size 5 i0 1 Tryd.underlying22 hi _ 0 [] rfl (World.ownsRow_nil _ _ _ _) (by show Value.slice none n cap = _; rw [h0.out.1, h0.out.2]) ?_)))
  have HB : Hid (Below w.heap.size w w) := Below.refl _ _
  have hown1 : w.ownsRow w.heap.size 5 1 (.slice none 0 0) n (cellsU8 zs) := by
    have hz1 := hz.out
    rw [h0.out.1] at hz1 ⊢
    rw [List.eq_nil_of_length_eq_zero hz1]
    exact World.ownsRow_nil _ _ _ _
  go_wp2_with (first
    | (at_builtin; go_must (refine wpList_append_own _ rfl (.tmp 11) (.tmp 12) 22 rfl w.heap.size 5 i0 (.int .u8 0) 1 1 Tryd.underlying22 hi hz0 hz1 hz2 rfl (by decide) _ _ _ rfl (hown1.alloc _) ⟨w.heap.size, 0, none⟩ 1 1 [.int .u8 128] rfl rfl (one_cell _ _ _) (one_one _) (by unfold maxLen; omega) (by omega) (by have := HB.out.size; rw [size_alloc]; omega) ?_)))
  intro v2 w2 hown2 hgrow2 hnil2
  have HB2 : Hid (Below w.heap.size w w2) := (HB.out.alloc HB.out.size _).grown hgrow2 (by have := HB.out.size; rw [size_alloc]; omega) (fun q hq => (hown1.lt q hq).1)
  have ho2 : w2.ownsRow w.heap.size 5 1 v2 (n + 1) (cellsU8 (zs ++ [128])) := by
    have e : cellsU8 (zs ++ [128]) = cellsU8 (zs) ++ [.int .u8 128] := by simp [cellsU8, List.replicate_succ']
    rw [e]
    simpa [Nat.add_assoc] using hown2
  clear hown2 hgrow2 hnil2
  obtain ⟨g2, c2, rfl⟩ := owns_some ho2 (by omega)
  have HO2 : Hid (w2.ownsRow w.heap.size 5 1 (.slice (some ⟨g2, 0, none⟩) (n + 1) c2) (n + 1) (cellsU8 (zs ++ [128]))) := ho2
  have HK : Hid (padK 128 n < 128 ∧ (n + 1 + padK 128 n + 16) % 128 = 0) := by unfold padK; exact ⟨by omega, by omega⟩
  obtain ⟨K, hK⟩ : ∃ K, Hid (K = padK 128 n) := ⟨_, rfl⟩
  rw [← hK.out] at HK
  clear ho2 hown1 HB
  go_wp2
  go_loopw [5] (fun v wr => ∃ k l g c : Nat, Hid (k ≤ K ∧ l = n + 1 + k) ∧ v = .slice (some ⟨g, 0, none⟩) l c ∧ Hid (wr.ownsRow w.heap.size 5 1 (.slice (some ⟨g, 0, none⟩) l c) l (cellsU8 (zs ++ ([128] ++ List.replicate k 0)))) ∧ Hid (Below w.heap.size w wr)) (fun v _ => n + 1 + K - lenOf v)
  case atStart => exact ⟨0, n + 1, g2, c2, ⟨by omega, rfl⟩, rfl, HO2, HB2⟩
  case round =>
    obtain ⟨k, l, g, c, HL, rfl, HO3, HB3⟩ := hrel
    clear HO2 HB2
    have hlw : IntKind.i64.wrap ((l : Int) + 16) = (l : Int) + 16 := by
      have := HL.out; have := HK.out
      rw [IntKind.wrap_i64]
      omega
    by_cases hlt : k < K
    · have d1 : ¬ ((l : Int) + 16) % 128 = 0 := by
        have := HL.out; have := HK.out
        omega
      have hl0 : 0 < l := by have := HL.out; omega
      have hl1 : l ≤ 1099511628000 := by have := HL.out; have := HK.out; omega
      go_wp2_with (first
        | (at_builtin; go_must (refine wpList_append_own _ rfl (.tmp 22) (.tmp 23) 22 rfl w.heap.size 5 i0 (.int .u8 0) 1 1 Tryd.underlying22 hi hz0 hz1 hz2 rfl (by decide) _ _ _ rfl (HO3.out.alloc _) ⟨wr.heap.size, 0, none⟩ 1 1 [.int .u8 0] rfl rfl (one_cell _ _ _) (one_one _) (by unfold maxLen; omega) (by omega) (by have := HB3.out.size; rw [size_alloc]; omega) ?_)))
      intro v4 w4 hown4 hgrow4 hnil4
      have HB4 : Hid (Below w.heap.size w w4) := (HB3.out.alloc HB3.out.size _).grown hgrow4 (by have := HB3.out.size; rw [size_alloc]; omega) (fun q hq => (HO3.out.lt q hq).1)
      have ho4 : w4.ownsRow w.heap.size 5 1 v4 (l + 1) (cellsU8 (zs ++ ([128] ++ List.replicate (k + 1) 0))) := by
        have e : cellsU8 (zs ++ ([128] ++ List.replicate (k + 1) 0)) = cellsU8 (zs ++ ([128] ++ List.replicate k 0)) ++ [.int .u8 0] := by simp [cellsU8, List.replicate_succ']
        rw [e]
        simpa [Nat.add_assoc] using hown4
      clear hown4 hgrow4 hnil4
      obtain ⟨g4, c4, rfl⟩ := owns_some ho4 (by omega)
      have HO4 : Hid (w4.ownsRow w.heap.size 5 1 (.slice (some ⟨g4, 0, none⟩) (l + 1) c4) (l + 1) (cellsU8 (zs ++ ([128] ++ List.replicate (k + 1) 0)))) := ho4
      clear ho4 HO3 HB3
      go_wp2
      go_roundw
      case rel => exact ⟨k + 1, l + 1, g4, c4, ⟨by omega, by have := HL.out; omega⟩, rfl, HO4, HB4⟩
      case measure => have := HL.out; simp [lenOf]; omega
    · have d1 : ((l : Int) + 16) % 128 = 0 := by
        have := HL.out; have := HK.out
        omega
      have hkK : k = K := by have := HL.out; omega
      have hbits : IntKind.u64.wrap ((n : Int) * 8) = (n : Int) * 8 := by
        rw [IntKind.wrap_u64]
        omega
      have hl1 : l ≤ 1099511628000 := by have := HL.out; have := HK.out; omega
      go_wp2
      obtain rfl := hkK
      clear d1 hlt hlw
      go_loopw [5, 7] (fun v vi wr => ∃ m l2 g c : Nat, Hid (m ≤ 16 ∧ l2 = l + (16 - m)) ∧ vi = .int .i64 ((m : Int) - 1) ∧ v = .slice (some ⟨g, 0, none⟩) l2 c ∧ Hid (wr.ownsRow w.heap.size 5 1 (.slice (some ⟨g, 0, none⟩) l2 c) l2 (cellsU8 (zs ++ ([128] ++ List.replicate k 0) ++ (bitsL 128 n).take (16 - m)))) ∧ Hid (Below w.heap.size w wr)) (fun _ vi _ => (intOf vi + 1).toNat)
      case atStart => exact ⟨16, l, g, c, ⟨by omega, by omega⟩, rfl, rfl, (by simpa using HO3.out : World.ownsRow _ _ _ _ _ _ _), HB3⟩
      case round =>
        obtain ⟨m, l2, g5, c5, HL2, rfl, rfl, HO5, HB5⟩ := hrel
        clear HO3 HB3
        rcases m with _ | i
        · rw [show ((0 : Nat) : Int) - 1 = -1 from rfl]
          go_wp2
          go_ret
          refine ⟨_, rfl, ?_, HB5.out⟩
          have hl2 : l2 = (laidL 128 zs).length := by
            rw [laidL_length, hz.out]
            have h1 := HL2.out; have h2 := HL.out; have h3 := hK.out
            unfold padK at h3 ⊢
            omega
          have hc : cellsU8 (laidL 128 zs) = cellsU8 (zs ++ ([128] ++ List.replicate k 0) ++ (bitsL 128 n).take (16 - 0)) := by
            have h3 := hK.out
            rw [laidL, hz.out, ← h3, List.take_of_length_le (by rw [bitsL_length]; omega)]
          rw [← hl2, hc]
          exact HO5.out
        · rw [show ((i + 1 : Nat) : Int) - 1 = (i : Int) by omega]
          have hi8 : i < 16 := by have := HL2.out; omega
          have hl0 : 0 < l2 := by have := HL.out; have := HL2.out; omega
          have hl3 : l2 ≤ 1099511628100 := by have := HL2.out; omega
          have hw1 : IntKind.i64.wrap (8 * (i : Int)) = 8 * (i : Int) := by rw [IntKind.wrap_i64]; omega
          have hw2 : IntKind.u64.wrap (8 * (i : Int)) = 8 * (i : Int) := by rw [IntKind.wrap_u64]; omega
          by_cases h8 : 8 ≤ i
          · have d8 : (8 : Int) ≤ (i : Int) := by omega
            go_wp2_with (first
              | (at_builtin; go_must (refine wpList_append_own _ rfl (.tmp 38) (.tmp 39) 22 rfl w.heap.size 5 i0 (.int .u8 0) 1 1 Tryd.underlying22 hi hz0 hz1 hz2 rfl (by decide) _ _ _ rfl (HO5.out.alloc _) ⟨wr.heap.size, 0, none⟩ 1 1 [.int .u8 0] rfl rfl (one_cell _ _ _) (one_one _) (by unfold maxLen; omega) (by omega) (by have := HB5.out.size; rw [size_alloc]; omega) ?_)))
            intro v6 w6 hown6 hgrow6 hnil6
            have HB6 : Hid (Below w.heap.size w w6) := (HB5.out.alloc HB5.out.size _).grown hgrow6 (by have := HB5.out.size; rw [size_alloc]; omega) (fun q hq => (HO5.out.lt q hq).1)
            have ho6 : w6.ownsRow w.heap.size 5 1 v6 (l2 + 1) (cellsU8 (zs ++ ([128] ++ List.replicate k 0) ++ (bitsL 128 n).take (16 - i))) := by
              have e : cellsU8 (zs ++ ([128] ++ List.replicate k 0) ++ (bitsL 128 n).take (16 - i)) = cellsU8 (zs ++ ([128] ++ List.replicate k 0) ++ (bitsL 128 n).take (16 - (i + 1))) ++ [.int .u8 0] := by rw [show 16 - i = 16 - (i + 1) + 1 by omega, List.take_add_one, bitsL_at 128 n (16 - (i + 1)) (by omega), show 128 / 8 - 1 - (16 - (i + 1)) = i by omega, if_pos h8]; simp [cellsU8]
              rw [e]
              simpa [Nat.add_assoc] using hown6
            clear hown6 hgrow6 hnil6
            obtain ⟨g6, c6, rfl⟩ := owns_some ho6 (by omega)
            have HO6 : Hid (w6.ownsRow w.heap.size 5 1 (.slice (some ⟨g6, 0, none⟩) (l2 + 1) c6) (l2 + 1) (cellsU8 (zs ++ ([128] ++ List.replicate k 0) ++ (bitsL 128 n).take (16 - i)))) := ho6
            clear ho6 HO5 HB5
            go_wp2
            go_roundw
            case rel => exact ⟨i, l2 + 1, g6, c6, ⟨by omega, by have := HL2.out; omega⟩, rfl, rfl, HO6, HB6⟩
            case measure => simp [intOf]
          · have d8 : ¬ (8 : Int) ≤ (i : Int) := by omega
            go_wp2_with (first
              | (at_builtin; go_must (refine wpList_append_own _ rfl (.tmp 41) (.tmp 48) 22 rfl w.heap.size 5 i0 (.int .u8 0) 1 1 Tryd.underlying22 hi hz0 hz1 hz2 rfl (by decide) _ _ _ rfl (HO5.out.alloc _) ⟨wr.heap.size, 0, none⟩ 1 1 [.int .u8 (((n : Int) * 8) / 2 ^ (8 * i) % 256)] rfl rfl (one_cell _ _ _) (one_one _) (by unfold maxLen; omega) (by omega) (by have := HB5.out.size; rw [size_alloc]; omega) ?_)))
            intro v6 w6 hown6 hgrow6 hnil6
            have HB6 : Hid (Below w.heap.size w w6) := (HB5.out.alloc HB5.out.size _).grown hgrow6 (by have := HB5.out.size; rw [size_alloc]; omega) (fun q hq => (HO5.out.lt q hq).1)
            have ho6 : w6.ownsRow w.heap.size 5 1 v6 (l2 + 1) (cellsU8 (zs ++ ([128] ++ List.replicate k 0) ++ (bitsL 128 n).take (16 - i))) := by
              have e : cellsU8 (zs ++ ([128] ++ List.replicate k 0) ++ (bitsL 128 n).take (16 - i)) = cellsU8 (zs ++ ([128] ++ List.replicate k 0) ++ (bitsL 128 n).take (16 - (i + 1))) ++ [.int .u8 (((n : Int) * 8) / 2 ^ (8 * i) % 256)] := by rw [show 16 - i = 16 - (i + 1) + 1 by omega, List.take_add_one, bitsL_at 128 n (16 - (i + 1)) (by omega), show 128 / 8 - 1 - (16 - (i + 1)) = i by omega, if_neg h8]; simp [cellsU8]
              rw [e]
              simpa [Nat.add_assoc] using hown6
            clear hown6 hgrow6 hnil6
            obtain ⟨g6, c6, rfl⟩ := owns_some ho6 (by omega)
            have HO6 : Hid (w6.ownsRow w.heap.size 5 1 (.slice (some ⟨g6, 0, none⟩) (l2 + 1) c6) (l2 + 1) (cellsU8 (zs ++ ([128] ++ List.replicate k 0) ++ (bitsL 128 n).take (16 - i)))) := ho6
            clear ho6 HO5 HB5
            go_wp2
            go_roundw
            case rel => exact ⟨i, l2 + 1, g6, c6, ⟨by omega, by have := HL2.out; omega⟩, rfl, rfl, HO6, HB6⟩
            case measure => simp [intOf]
/-- laid. -/
theorem rlaid_any (wd : Bool) (v : Value) (zs : List Int) (w : World) (hv : View w v zs) (hn : zs.length ≤ 1099511627776) :
    Calls Tryd.prog 47 #[v, .int .i64 (bsz wd)] w fun e w' => ∃ v', e = .returned v' ∧ w'.ownsRow w.heap.size 5 1 v' (laidL (bsz wd) zs).length (cellsU8 (laidL (bsz wd) zs)) ∧ Below w.heap.size w w' := by
  obtain ⟨a, cap, rfl, h1, h2, h3, h4⟩ := hv
  rcases a with _ | x
  · obtain rfl := h3 rfl
    have hz : zs = [] := by
      rcases h4 with h | ⟨b, p, h, _⟩
      · exact h
      · cases h
    cases wd
    · exact rlaid64_none 0 zs zs.length w rfl hn ⟨by rw [hz]; rfl, rfl⟩
    · exact rlaid128_none 0 zs zs.length w rfl hn ⟨by rw [hz]; rfl, rfl⟩
  · have hc : ∀ j u, (cellsU8 zs)[j]? = some u → w.cell? (x.add j) = some u := by
      rcases h4 with rfl | ⟨b, p, h, hc⟩
      · intro j u hu
        simp [cellsU8] at hu
      · injection h with h
        subst h
        exact cellsU8_at zs w b p hc
    cases wd
    · exact rlaid64_some x cap zs zs.length w rfl hn hc
    · exact rlaid128_some x cap zs zs.length w rfl hn hc
end Go.Proofs.YtcopkohklgbpgabDoor
namespace Go.Proofs.YtcopkohklgbpgabDoor
open Go.RowKit
set_option linter.unusedVariables false
set_option linter.unusedSimpArgs false
/-- A buffer at the head of block g: its room, how much of it is used; the stream's cell lies behind. -/
structure Buf (w : World) (g : Nat) (f : Nat → Int) (u : Nat) : Prop where
  room : ∀ i, i < 1024 → w.cell? ⟨g, i, none⟩ = some (.int .u8 (f i))
  used : w.cell? ⟨g, 1024, none⟩ = some (.int .i64 (u : Nat))
  there : w.there g 0 1026
theorem Buf.lt {w : World} {g : Nat} {f : Nat → Int} {u : Nat} (h : Buf w g f u) : g < w.heap.size := by
  have := World.block_lt_of_cell? w _ h.used
  simpa using this
theorem Buf.far {w v : World} {g g' o n u : Nat} {f : Nat → Int} (h : Buf w g f u) (b : Touch w v g' o n) (hne : g ≠ g') : Buf v g f u := by
  have hg := h.lt
  exact ⟨fun i hi => by rw [b.far (p := ⟨g, i, none⟩) hg hne]; exact h.room i hi, by rw [b.far (p := ⟨g, 1024, none⟩) hg hne]; exact h.used, fun j hj => by rw [b.far (p := ⟨g, 0 + j, none⟩) hg hne, b.farFrozen (p := ⟨g, 0 + j, none⟩) hg hne]; exact h.there j hj⟩
theorem Buf.below {w v : World} {g u : Nat} {f : Nat → Int} (h : Buf w g f u) (b : Below w.heap.size w v) : Buf v g f u := by
  have hg := h.lt
  have hc : ∀ p : Addr, p.block = g → v.cell? p = w.cell? p := fun p e => World.cell?_of_block (b.block _ (by rw [e]; exact hg))
  have hf : ∀ p : Addr, p.block = g → v.frozen? p = w.frozen? p := fun p e => World.frozen?_of_block (b.block _ (by rw [e]; exact hg))
  exact ⟨fun i hi => by rw [hc _ rfl]; exact h.room i hi, by rw [hc _ rfl]; exact h.used, fun j hj => by rw [hc _ rfl, hf _ rfl]; exact h.there j hj⟩
/-- A list laid over the first n. -/
def xorF (f : Nat → Int) (z : Nat → Int) (n : Nat) (i : Nat) : Int := if i < n then bits .xor .u8 (f i) (z i) else f i
theorem xorF_succ (f z : Nat → Int) (k : Nat) : xorF f z (k + 1) = fun i => if i = k then bits .xor .u8 (f k) (z k) else xorF f z k i := by
  funext i
  unfold xorF
  by_cases h : i = k
  · subst h; simp
  · by_cases h2 : i < k
    · rw [if_pos (by omega), if_neg h, if_pos h2]
    · rw [if_neg (by omega), if_neg h, if_neg h2]
theorem Buf.set {w : World} {g u k : Nat} {f : Nat → Int} (h : Buf w g f u) (hk : k < 1024) (x : Int) : Buf (w.setCell ⟨g, k, none⟩ (.int .u8 x)) g (fun i => if i = k then x else f i) u := by
  refine ⟨fun i hi => ?_, ?_, fun j hj => ?_⟩
  · by_cases e : i = k
    · subst e
      rw [if_pos rfl]
      exact World.cell?_setCell_same' _ _ _ (by rw [h.room i hi]; rfl)
    · rw [if_neg e, World.cell?_setCell_other _ _ _ _ (by intro q; injection q with _ q2; omega)]
      exact h.room i hi
  · rw [World.cell?_setCell_other _ _ _ _ (by intro q; injection q with _ q2; omega)]
    exact h.used
  · exact World.there_setCells h.there g k [.int .u8 x] j hj
theorem Buf.setUsed {w : World} {g u : Nat} {f : Nat → Int} (h : Buf w g f u) (n : Nat) : Buf (w.setCell ⟨g, 1024, none⟩ (.int .i64 (n : Nat))) g f n := by
  refine ⟨fun i hi => ?_, ?_, fun j hj => ?_⟩
  · rw [World.cell?_setCell_other _ _ _ _ (by intro q; injection q with _ q2; omega)]
    exact h.room i hi
  · exact World.cell?_setCell_same' _ _ _ (by rw [h.used]; rfl)
  · exact World.there_setCells h.there g 1024 [.int .i64 (n : Nat)] j hj
set_option maxHeartbeats 800000 in
set_option maxRecDepth 100000 in
theorem xor_some (g n c b off u : Nat) (f z : Nat → Int) (w : World) (hb : Hid (Buf w g f u)) (hn : n ≤ 1024) (hne : b ≠ g)
    (hc : Hid (∀ i, i < n → w.cell? ⟨b, off + i, none⟩ = some (.int .u8 (z i)))) :
    Calls Tryd.prog 25 #[.pointer (some ⟨g, 0, none⟩), .slice (some ⟨b, off, none⟩) n c] w fun e w' => e = .returned (.tuple #[]) ∧ Buf w' g (xorF f z n) n ∧ Touch w w' g 0 1025 := by
  have hu : w.cell? ⟨g, 1024, none⟩ = some (.int .i64 (u : Nat)) := hb.out.used
  have hfu : w.frozen? ⟨g, 1024, none⟩ = false := by have := (hb.out.there 1024 (by omega)).2; simpa using this
  have HB0 : Hid (Buf (w.setCell ⟨g, 1024, none⟩ (.int .i64 (n : Nat))) g (xorF f z 0) n ∧ Touch w (w.setCell ⟨g, 1024, none⟩ (.int .i64 (n : Nat))) g 0 1025) := ⟨hb.out.setUsed n, (Touch.refl w g 0 1025).setCell 1024 _ (by omega) (by omega)⟩
  go_enter Tryd.func25, Tryd.ntmps25
  go_wp2
  go_loopw [13] (fun i wr => ∃ k : Nat, k ≤ n ∧ i = .int .i64 (k : Nat) ∧ Hid (Buf wr g (xorF f z k) n ∧ Touch w wr g 0 1025)) (fun i _ => n - (intOf i).toNat)
  case atStart => exact ⟨0, Nat.zero_le _, rfl, HB0⟩
  case round =>
    obtain ⟨k, hk, rfl, HB⟩ := hrel
    clear hu hfu HB0
    by_cases hlt : k < n
    · obtain ⟨x, hx⟩ : ∃ x, x = z k := ⟨_, rfl⟩
      obtain ⟨y, hy⟩ : ∃ y, y = f k := ⟨_, rfl⟩
      have g1 : wr.cell? ⟨b, off + k, none⟩ = some (.int .u8 x) := by
        have q := hc.out k hlt
        rw [HB.out.2.far (p := ⟨b, off + k, none⟩) (by have := World.block_lt_of_cell? w _ q; simpa using this) hne, q, hx]
      have g2 : wr.cell? ⟨g, k, none⟩ = some (.int .u8 y) := by
        rw [HB.out.1.room k (by omega), hy]
        simp [xorF]
      have g3 : wr.frozen? ⟨g, k, none⟩ = false := by have := (HB.out.1.there k (by omega)).2; simpa using this
      have HN : Hid (Buf (wr.setCell ⟨g, k, none⟩ (.int .u8 (bits .xor .u8 y x))) g (xorF f z (k + 1)) n ∧ Touch w (wr.setCell ⟨g, k, none⟩ (.int .u8 (bits .xor .u8 y x))) g 0 1025) := by
        refine ⟨?_, HB.out.2.setCell k _ (by omega) (by omega)⟩
        rw [xorF_succ, ← hx, ← hy]
        exact HB.out.1.set (by omega) _
      clear hx hy HB
      go_wp2
      go_region
      all_goals go_wp2
      all_goals go_roundw
      all_goals first
        | (simp [intOf]; omega)
        | exact ⟨k + 1, by omega, by go_num, ⟨⟨HN.out.1.room, HN.out.1.used, HN.out.1.there⟩, HN.out.2.drewN _⟩⟩
    · obtain rfl : k = n := by omega
      go_wp2
      go_end0
      exact ⟨rfl, HB.out⟩
theorem xor_none (g c u : Nat) (a : Option Addr) (f z : Nat → Int) (w : World) (hb : Hid (Buf w g f u)) :
    Calls Tryd.prog 25 #[.pointer (some ⟨g, 0, none⟩), .slice a 0 c] w fun e w' => e = .returned (.tuple #[]) ∧ Buf w' g (xorF f z 0) 0 ∧ Touch w w' g 0 1025 := by
  have hu : w.cell? ⟨g, 1024, none⟩ = some (.int .i64 (u : Nat)) := hb.out.used
  have hfu : w.frozen? ⟨g, 1024, none⟩ = false := by have := (hb.out.there 1024 (by omega)).2; simpa using this
  have HB0 : Hid (Buf (w.setCell ⟨g, 1024, none⟩ (.int .i64 0)) g (xorF f z 0) 0 ∧ Touch w (w.setCell ⟨g, 1024, none⟩ (.int .i64 0)) g 0 1025) := ⟨hb.out.setUsed 0, (Touch.refl w g 0 1025).setCell 1024 _ (by omega) (by omega)⟩
  go_enter Tryd.func25, Tryd.ntmps25
  go_wp2
  go_loop [13] (fun i => i = .int .i64 0) (fun _ => 0)
  case atStart => rfl
  case round =>
    subst hrel
    go_wp2
    go_end0
    exact ⟨rfl, HB0.out⟩
theorem len48 : Tryd.prog.arrayLen 41 = 1024 := by kernel_rfl
theorem elem48 : Tryd.prog.elem 41 = 5 := by kernel_rfl
theorem und48 : Tryd.prog.underlying 41 = some (.array (Tryd.prog.arrayLen 41) (Tryd.prog.elem 41)) := by kernel_rfl
theorem sizeOf5b (w : World) : (Go.sizeOf 5).run Tryd.prog w = .ok 1 w := by kernel_rfl
set_option maxHeartbeats 400000 in
theorem bytes_ok (g u : Nat) (f : Nat → Int) (w : World) (hb : Hid (Buf w g f u)) (hu1 : u ≤ 1024) :
    Calls Tryd.prog 27 #[.pointer (some ⟨g, 0, none⟩)] w fun e w' => e = .returned (.slice (some ⟨g, 0, none⟩) u u) ∧ ∃ m, w' = w.drewN m := by
  have hu : w.cell? ⟨g, 1024, none⟩ = some (.int .i64 (u : Nat)) := hb.out.used
  have hs : ∀ v, (Instr.sliceAt 41 (.pointer (some ⟨g, 0, none⟩)) none (some (.int .i64 (u : Nat))) (some (.int .i64 (u : Nat)))).run Tryd.prog v = .ok (.slice (some ⟨g, 0, none⟩) u u) v := fun v => by
    rw [run_sliceAt_array_hm v 41 ⟨g, 0, none⟩ und48 .i64 .i64 u u (by omega) (by omega) (by rw [len48]; omega), elem48, sizeOf5b]
    simp [Result.andThen, slicedAt, Addr.add]
  clear hb
  go_enter Tryd.func27, Tryd.ntmps27
  go_wp2
  go_quiet (fail)
  go_wp2
  go_ret
  exact ⟨rfl, _, rfl⟩
end Go.Proofs.YtcopkohklgbpgabDoor
namespace Go.Proofs.YtcopkohklgbpgabDoor
open Go.RowKit
set_option linter.unusedVariables false
set_option linter.unusedSimpArgs false
/-- Only blocks g and s, and new ones, may have changed. -/
structure Tw (w w' : World) (g s : Nat) : Prop where
  os : w'.os = w.os
  tape : w'.tape = w.tape
  output : w'.output = w.output
  size : w.heap.size ≤ w'.heap.size
  block : ∀ k, k < w.heap.size → k ≠ g → k ≠ s → w'.heap[k]? = w.heap[k]?
theorem Tw.refl (w : World) (g s : Nat) : Tw w w g s := ⟨rfl, rfl, rfl, Nat.le_refl _, fun _ _ _ _ => rfl⟩
theorem Tw.trans {a b c : World} {g s : Nat} (h : Tw a b g s) (k : Tw b c g s) : Tw a c g s :=
  ⟨k.os.trans h.os, k.tape.trans h.tape, k.output.trans h.output, Nat.le_trans h.size k.size, fun i hi h1 h2 => (k.block i (Nat.lt_of_lt_of_le hi h.size) h1 h2).trans (h.block i hi h1 h2)⟩
theorem Touch.twG {w w' : World} {g o n : Nat} (h : Touch w w' g o n) (s : Nat) : Tw w w' g s := ⟨h.os, h.tape, h.output, h.size, fun k hk h1 _ => h.block k hk h1⟩
theorem Touch.twS {w w' : World} {s o n : Nat} (h : Touch w w' s o n) (g : Nat) : Tw w w' g s := ⟨h.os, h.tape, h.output, h.size, fun k hk _ h2 => h.block k hk h2⟩
theorem Below.tw {w w' : World} (h : Below w.heap.size w w') (g s : Nat) : Tw w w' g s := ⟨h.os, h.tape, h.output, h.size, fun k hk _ _ => h.block k hk⟩
theorem Tw.toBelow {w w' : World} {g s B : Nat} (h : Tw w w' g s) (hg : B ≤ g) (hs : B ≤ s) (hB : B ≤ w.heap.size) : Below B w w' := ⟨h.os, h.tape, h.output, h.size, fun k hk => h.block k (by omega) (by omega) (by omega)⟩
theorem Tw.view {w w' : World} {g s : Nat} (h : Tw w w' g s) {v : Value} {zs : List Int} (hv : View w v zs) (hg : ∀ b off l c, v = .slice (some ⟨b, off, none⟩) l c → b ≠ g ∧ b ≠ s) : View w' v zs := by
  obtain ⟨a, c, rfl, h1, h2, h3, h4⟩ := hv
  refine ⟨a, c, rfl, h1, h2, h3, ?_⟩
  rcases h4 with h4 | ⟨b, off, rfl, hc⟩
  · exact .inl h4
  · have hb := hg b off _ _ rfl
    refine .inr ⟨b, off, rfl, fun i hi => ?_⟩
    have q := hc i hi
    have hlt := World.block_lt_of_cell? w _ q
    rw [World.cell?_of_block (w := w) (h.block b hlt hb.1 hb.2)]
    exact q
/-- A mixer: a buffer, and its stream's place. -/
def Mx (w : World) (g s : Nat) (f : Nat → Int) (u : Nat) : Prop := Buf w g f u ∧ w.cell? ⟨g, 1025, none⟩ = some (.pointer (some ⟨s, 0, none⟩))
theorem Mx.touch {w v : World} {g s u u' : Nat} {f f' : Nat → Int} (h : Mx w g s f u) (b : Touch w v g 0 1025) (k : Buf v g f' u') : Mx v g s f' u' := ⟨k, by rw [b.cell 1025 (by omega)]; exact h.2⟩
theorem Mx.far {w v : World} {g s u g' o n : Nat} {f : Nat → Int} (h : Mx w g s f u) (b : Touch w v g' o n) (hne : g ≠ g') : Mx v g s f u := ⟨h.1.far b hne, by rw [b.far (p := ⟨g, 1025, none⟩) h.1.lt hne]; exact h.2⟩
theorem Mx.below {w v : World} {g s u : Nat} {f : Nat → Int} (h : Mx w g s f u) (b : Below w.heap.size w v) : Mx v g s f u := ⟨h.1.below b, by rw [World.cell?_of_block (b.block g h.1.lt)]; exact h.2⟩
/-- A stream that has been fed nothing. -/
def Fresh (w : World) (s : Nat) (h : Int) : Prop := Rep w s 0 h (wdOf h) (firstE h) 0 []
set_option maxHeartbeats 1600000 in
set_option maxRecDepth 100000 in
/-- Reset. -/
theorem sreset (g : Nat) (h : Int) (s0 : Eight) (zs : List Int) (w : World) (k : Hid (Known h)) (hr : Hid (Rep w g 0 h (wdOf h) s0 0 zs)) (hT : Hid (Tables w)) :
    Calls Tryd.prog 22 #[.pointer (some ⟨g, 0, none⟩)] w fun e w' => e = .returned (.int .i64 0) ∧ Fresh w' g h ∧ Touch w w' g 0 139 := by
  obtain ⟨hc, HX3⟩ : w.cell? ⟨g, 0, none⟩ = some (.int .i64 h) ∧ Hid (w.there g 0 139) := by
    obtain ⟨half, hk, _, _⟩ := hr.out
    exact ⟨hk.hash, hk.there⟩
  have hg0 : g < w.heap.size := by have := World.block_lt_of_cell? w _ hc; simpa using this
  have hg : Hid (g < w.heap.size) := hg0
  clear hg0
  go_enter Tryd.func22, Tryd.ntmps22
  go_wp2_with (first | (go_at_call 29; refine (begin_any k.out w hT.out).mono ?_))
  rintro e1 w1 ⟨rfl, hb1⟩
  obtain ⟨T, HTT⟩ : ∃ T : List Value, Hid (T = tkL h (wdOf h) (firstE h) (fun _ => 0) 0) := ⟨_, rfl⟩
  rw [← HTT.out]
  have HG : Hid (TkBig T) := by show TkBig T; rw [HTT.out]; exact tkBig _ _ _ _ _
  have HB1 : Hid (Below w.heap.size w w1) := hb1
  have HX : Hid ((w1.alloc (.cells Tryd.zeroCells68 68)).there w1.heap.size 0 139) := there_new w1 Tryd.zeroCells68 68 139 (by rw [cells71z, size71z]; exact Nat.le_refl _)
  clear hb1 hc
  go_upto_region 4 with (first
    | (refine wpList_store_mid (by rfl) 68 (.tmp 3) (.tmp 14) (by rfl) w1.heap.size 0 T.toArray (by rfl) (by rfl) (by rw [HG.out.size]; exact HX.out) HG.out.info HG.out.one ?_)
    | fail)
  have HR2 : Hid (((w1.alloc (.cells Tryd.zeroCells68 68)).setCells w1.heap.size 0 T).rangeAt w1.heap.size 0 T) := World.rangeAt_setCells_same _ _ _ _ (by rw [HG.out.len]; exact HX.out)
  have HB2 : Hid (Below w.heap.size w ((w1.alloc (.cells Tryd.zeroCells68 68)).setCells w1.heap.size 0 T)) := below_setCells _ HB1.out.size _ _ _ (HB1.out.alloc HB1.out.size _)
  generalize (w1.alloc (.cells Tryd.zeroCells68 68)).setCells w1.heap.size 0 T = w2 at HR2 HB2 ⊢
  clear HX
  have HX2 : Hid (w2.there g 0 139) := fun j hj => by
    have q := HX3.out j hj
    rw [World.cell?_of_block (w := w) (HB2.out.block g hg.out), World.frozen?_of_block (w := w) (HB2.out.block g hg.out)]
    exact q
  go_wp2_with (first
    | (refine wpList_load_mid (by rfl) 68 (.tmp 3) (by rfl) w1.heap.size 0 (by rfl) T _ HR2.out Tryd.underlying68 rfl (by rw [HG.out.len]; exact size71) ?_)
    | (refine wpList_store_mid (by rfl) 68 (.tmp 19) (.tmp 17) (by rfl) g 0 T.toArray (by rfl) (by rfl) (by rw [HG.out.size]; exact HX2.out) HG.out.info HG.out.one ?_)
    | fail)
  go_ret
  have hT' : T = tkL h (wdOf h) (firstE h) (fun _ => 0) 0 := HTT.out
  have hra : (w2.setCells g 0 T).rangeAt g 0 T := World.rangeAt_setCells_same _ _ _ _ (by rw [HG.out.len]; exact HX2.out)
  refine ⟨rfl, rep_nil (TK.of (half := fun _ => 0) ?_ (World.there_setCells HX2.out g 0 T)) (Nat.zero_mod _), ((Touch.refl w g 0 139).below HB2.out hg.out).setCells 0 T (Nat.le_refl _) (by rw [HG.out.len]; omega)⟩
  rw [hT'] at hra ⊢
  exact hra
/-- A new mixer's cells. -/
def mxLn (n : Nat) (p : Value) : List Value := List.replicate n (.int .u8 0) ++ [.int .i64 0, p]
def mxL (p : Value) : List Value := mxLn 1024 p
theorem mxLn_length (n : Nat) (p : Value) : (mxLn n p).length = n + 2 := by simp [mxLn]
theorem mxLn_set (n : Nat) (p q : Value) : (mxLn n p).toArray.setIfInBounds (n + 1) q = (mxLn n q).toArray := by
  rw [mxLn, mxLn, List.setIfInBounds_toArray, List.set_append_right _ _ (by simp)]
  simp
theorem mxLn_room (n : Nat) (p : Value) (i : Nat) (hi : i < n) : (mxLn n p)[i]? = some (.int .u8 0) := by simp [mxLn, List.getElem?_append, hi]
theorem mxLn_used (n : Nat) (p : Value) : (mxLn n p)[n]? = some (.int .i64 0) := by simp [mxLn, List.getElem?_append]
theorem mxLn_strm (n : Nat) (p : Value) : (mxLn n p)[n + 1]? = some p := by simp [mxLn, List.getElem?_append]
theorem zero53 : Tryd.zeroCells46 = (mxL (.pointer none)).toArray := by kernel_rfl
theorem mxL_length (p : Value) : (mxL p).length = 1026 := mxLn_length 1024 p
theorem mxL_set (p q : Value) : (mxL p).toArray.setIfInBounds 1025 q = (mxL q).toArray := mxLn_set 1024 p q
theorem mx_new (w : World) (s : Nat) : Mx (w.alloc (.cells (mxL (.pointer (some ⟨s, 0, none⟩))).toArray 46)) w.heap.size s (fun _ => 0) 0 := by
  have hr := rangeAt_new w (mxL (.pointer (some ⟨s, 0, none⟩))).toArray 46
  have ht := there_new w (mxL (.pointer (some ⟨s, 0, none⟩))).toArray 46 1026 (by simp only [List.size_toArray, mxL_length]; exact Nat.le_refl _)
  have hc : ∀ i v, (mxL (.pointer (some ⟨s, 0, none⟩)))[i]? = some v → (w.alloc (.cells (mxL (.pointer (some ⟨s, 0, none⟩))).toArray 46)).cell? ⟨w.heap.size, i, none⟩ = some v := fun i v hv => by
    have := hr i v hv
    rwa [Nat.zero_add] at this
  exact ⟨⟨fun i hi => hc i _ (mxLn_room 1024 _ i hi), hc 1024 _ (mxLn_used 1024 _), ht⟩, hc 1025 _ (mxLn_strm 1024 _)⟩
set_option maxHeartbeats 1600000 in
set_option maxRecDepth 100000 in
/-- begin, of a digest that there is. -/
theorem mbegin (h : Int) (w : World) (k : Hid (Known h)) (hT : Hid (Tables w)) :
    Calls Tryd.prog 11 #[.int .i64 h] w fun e w' => ∃ g s, e = .returned (.tuple #[.pointer (some ⟨g, 0, none⟩), .int .i64 0]) ∧ Mx w' g s (fun _ => 0) 0 ∧ Fresh w' s h ∧ s < g ∧ w.heap.size ≤ s ∧ Below w.heap.size w w' := by
  go_enter Tryd.func11, Tryd.ntmps11
  go_wp2_with (first | (go_at_call 20; refine (new_good h w k hT).mono ?_))
  rintro e1 w1 ⟨s, rfl, hs, hr, hb1⟩
  have HF : Hid (Fresh w1 s h) := hr
  have HB : Hid (Below w.heap.size w w1) := hb1
  have hz : Tryd.zeroCells46.setIfInBounds 1025 (.pointer (some ⟨s, 0, none⟩)) = (mxL (.pointer (some ⟨s, 0, none⟩))).toArray := by rw [zero53, mxL_set]
  clear hr hb1
  go_wp2
  go_ret2
  have hlt : s < w1.heap.size := by
    obtain ⟨half, hk, _, _⟩ := HF.out
    have := World.block_lt_of_cell? w1 _ hk.hash
    simpa using this
  have hal : Below w1.heap.size w1 (w1.alloc (.cells (mxL (.pointer (some ⟨s, 0, none⟩))).toArray 46)) := (Below.refl _ w1).alloc (Nat.le_refl _) _
  exact ⟨w1.heap.size, s, rfl, mx_new w1 s, Rep.below HF.out hal, hlt, hs, HB.out.trans (hal.mono HB.out.size)⟩
theorem Fresh.lt {w : World} {s : Nat} {h : Int} (k : Fresh w s h) : s < w.heap.size := by
  obtain ⟨half, hk, _, _⟩ := k
  have := World.block_lt_of_cell? w _ hk.hash
  simpa using this
theorem Rep.lt {w : World} {s o : Nat} {h : Int} {wd : Bool} {s0 : Eight} {f0 : Nat} {zs : List Int} (k : Rep w s o h wd s0 f0 zs) : s < w.heap.size := by
  obtain ⟨half, hk, _, _⟩ := k
  have := World.block_lt_of_cell? w _ hk.hash
  simpa using this
set_option maxHeartbeats 400000 in
/-- Wipe. -/
theorem wipe39 (g o k c : Nat) (w : World) (ht : w.there g o k) : Calls Tryd.prog 30 #[.slice (some ⟨g, o, none⟩) k c] w fun e w' => e = .returned (.tuple #[]) ∧ w' = w.setCells g o (List.replicate k (.int .u8 0)) := by
  have he := fun ty => clear_eq w ty g o k c ht
  clear ht
  go_enter Tryd.func30, Tryd.ntmps30
  go_wp2
  go_end0
  exact ⟨rfl, rfl⟩
theorem wipe39_none (a : Option Addr) (c : Nat) (w : World) : Calls Tryd.prog 30 #[.slice a 0 c] w fun e w' => e = .returned (.tuple #[]) ∧ w' = w := by
  have he : ∀ ty, (Builtin.clear_ #[22] ty #[.slice a 0 c]).run Tryd.prog w = .ok (.tuple #[]) w := fun ty => by
    cases a <;> simp [Builtin.clear_, run_underlying Tryd.underlying22]
  go_enter Tryd.func30, Tryd.ntmps30
  go_wp2
  go_end0
  exact ⟨rfl, rfl⟩
theorem Buf.zeroed {w : World} {g u : Nat} {f : Nat → Int} (h : Buf w g f u) (n : Nat) (hn : n = 1024) : Buf (w.setCells g 0 (List.replicate n (.int .u8 0))) g (fun _ => 0) u := by
  refine ⟨fun i hi => ?_, ?_, fun j hj => World.there_setCells h.there g 0 _ j hj⟩
  · have q := World.cell?_setCells_in g (List.replicate n (Value.int .u8 0)) 0 w (fun j hj => (h.there j (by simp at hj; omega)).1) i (by simp; omega)
    rw [Nat.zero_add] at q
    rw [q, List.getElem_replicate]
  · rw [World.cell?_setCells_out g _ 0 w ⟨g, 1024, none⟩ (fun _ _ => Or.inr (by simp; omega))]
    exact h.used
set_option maxHeartbeats 800000 in
set_option maxRecDepth 100000 in
theorem bwipe (g u : Nat) (f : Nat → Int) (w : World) (hb : Hid (Buf w g f u)) :
    Calls Tryd.prog 21 #[.pointer (some ⟨g, 0, none⟩)] w fun e w' => e = .returned (.tuple #[]) ∧ Buf w' g (fun _ => 0) 0 ∧ Touch w w' g 0 1025 := by
  obtain ⟨n, hn⟩ : ∃ n : Nat, n = 1024 := ⟨_, rfl⟩
  have hs : ∀ v, (Instr.sliceAt 41 (.pointer (some ⟨g, 0, none⟩)) none none none).run Tryd.prog v = .ok (.slice (some ⟨g, 0, none⟩) n n) v := fun v => by
    rw [run_sliceAt_array_all v 41 ⟨g, 0, none⟩ und48, elem48, sizeOf5b, len48, hn]
    simp [Result.andThen, slicedAt, Addr.add]
  have HW : Hid (Calls Tryd.prog 30 #[.slice (some ⟨g, 0, none⟩) n n] w fun e w' => e = .returned (.tuple #[]) ∧ w' = w.setCells g 0 (List.replicate n (.int .u8 0))) := wipe39 g 0 n n w (fun j hj => hb.out.there j (by omega))
  have HZ : Hid (Buf (w.setCells g 0 (List.replicate n (.int .u8 0))) g (fun _ => 0) u ∧ Touch w (w.setCells g 0 (List.replicate n (.int .u8 0))) g 0 1025) := ⟨hb.out.zeroed n hn, (Touch.refl w g 0 1025).setCells 0 _ (Nat.le_refl _) (by simp; omega)⟩
  have HN : Hid (n = 1024) := hn
  clear hn hb
  go_enter Tryd.func21, Tryd.ntmps21
  go_wp2_with (first | (go_at_call 30; refine HW.out.mono ?_))
  rintro e w1 ⟨rfl, hw1⟩
  rw [← hw1] at HZ
  have hu : w1.cell? ⟨g, 1024, none⟩ = some (.int .i64 (u : Nat)) := HZ.out.1.used
  have hfu : w1.frozen? ⟨g, 1024, none⟩ = false := by have := (HZ.out.1.there 1024 (by omega)).2; simpa using this
  clear hw1 HW
  go_wp2
  go_end0
  exact ⟨rfl, HZ.out.1.setUsed 0, HZ.out.2.setCell 1024 _ (by omega) (by omega)⟩
set_option maxHeartbeats 800000 in
set_option maxRecDepth 100000 in
/-- end. -/
theorem mend (g s u : Nat) (f : Nat → Int) (h : Int) (s0 : Eight) (zs : List Int) (w : World) (k : Hid (Known h)) (hm : Hid (Mx w g s f u)) (hr : Hid (Rep w s 0 h (wdOf h) s0 0 zs)) (hT : Hid (Tables w)) (hne : g ≠ s) (hg : 4 ≤ g) :
    Calls Tryd.prog 12 #[.pointer (some ⟨g, 0, none⟩)] w fun e w' => e = .returned (.tuple #[]) ∧ Tw w w' g s := by
  go_enter Tryd.func12, Tryd.ntmps12
  go_wp2_with (first | (go_at_call 21; refine (bwipe g u f w hm.out.1).mono ?_))
  rintro e w1 ⟨rfl, hb1, ht1⟩
  have hm1 : Mx w1 g s (fun _ => 0) 0 := hm.out.touch ht1 hb1
  have hc := hm1.2
  have HR1 : Hid (Rep w1 s 0 h (wdOf h) s0 0 zs) := Rep.far hr.out ht1 (Ne.symm hne)
  have HT1 : Hid (Tables w1) := hT.out.touch ht1 (by omega)
  have HW1 : Hid (Touch w w1 g 0 1025) := ht1
  clear hb1 ht1 hm1
  go_wp2_with (first | (go_at_call 22; refine (sreset s h s0 zs w1 k HR1 HT1).mono ?_))
  rintro e w2 ⟨rfl, _, ht2⟩
  go_wp2
  go_end0
  exact ⟨rfl, (HW1.out.twG s).trans (ht2.twS g)⟩
set_option maxHeartbeats 800000 in
set_option maxRecDepth 100000 in
/-- tell: what is used, into a list of as many bytes at least. -/
theorem tell_ok (g u b off m c : Nat) (f : Nat → Int) (w : World) (hb : Hid (Buf w g f u)) (hu : u ≤ 1024) (hm : u ≤ m) (ht : Hid (w.there b off u)) :
    Calls Tryd.prog 15 #[.pointer (some ⟨g, 0, none⟩), .slice (some ⟨b, off, none⟩) m c] w fun e w' => e = .returned (.tuple #[]) ∧ ∃ q, w' = (w.drewN q).setCells b off (cellsU8 ((List.range u).map f)) := by
  go_enter Tryd.func15, Tryd.ntmps15
  go_wp2_with (first | (go_at_call 27; refine (bytes_ok g u f w hb hu).mono ?_))
  rintro e w1 ⟨rfl, q, rfl⟩
  have hv : View (w.drewN q) (.slice (some ⟨g, 0, none⟩) u u) ((List.range u).map f) := by
    refine ⟨_, u, by simp, by simp, by unfold maxLen; omega, (fun e => by cases e), .inr ⟨g, 0, rfl, fun i hi => ?_⟩⟩
    simp at hi
    rw [Nat.zero_add]
    have := hb.out.room i (by omega)
    show w.cell? _ = _
    rw [this]
    simp [List.getD, hi]
  have hcp := copy_eq (w.drewN q) b off m c (some ⟨g, 0, none⟩) u u u ((List.range u).map f) (by omega) hv (fun j hj => ht.out j hj)
  rw [List.take_of_length_le (by simp)] at hcp
  obtain ⟨L, HL⟩ : ∃ L, Hid (L = cellsU8 ((List.range u).map f)) := ⟨_, rfl⟩
  rw [← HL.out] at hcp
  clear hv
  go_wp2
  go_end0
  exact ⟨rfl, q, by rw [HL.out]⟩
end Go.Proofs.YtcopkohklgbpgabDoor
namespace Go.Proofs.YtcopkohklgbpgabDoor
open Go.RowKit
set_option linter.unusedVariables false
set_option linter.unusedSimpArgs false

/-- The bytes of eight words, of which a digest is the beginning. -/
def spellL (wd : Bool) (s : Eight) : List Int := (List.range 64).map (spellAt (wsz wd) s)
theorem spellL_length (wd : Bool) (s : Eight) : (spellL wd s).length = 64 := by simp [spellL]
theorem spellCells_eq (wd : Bool) (s : Eight) : spellCells (wsz wd) s = cellsU8 (spellL wd s) := by simp [spellCells, cellsU8, spellL]
theorem owns_mono {w : World} {B B' : Nat} {e : TypeId} {s n : Nat} {v : Value} {xs : List Value} (h : w.ownsRow B e s v n xs) (hB : B' ≤ B) : w.ownsRow B' e s v n xs := by
  obtain ⟨h1, h2⟩ := h
  rcases h2 with h2 | ⟨g, c, cur, e1, e2, e3⟩
  · exact ⟨h1, .inl h2⟩
  · exact ⟨h1, .inr ⟨g, c, cur, e1, by omega, e3⟩⟩
theorem szOf_known {h : Int} (k : Known h) : szOf h = 28 ∨ szOf h = 32 ∨ szOf h = 48 ∨ szOf h = 64 := by
  rcases k with rfl | rfl | rfl | rfl
  · exact .inl rfl
  · exact .inr (.inl rfl)
  · exact .inr (.inr (.inl rfl))
  · exact .inr (.inr (.inr rfl))
theorem first_any {h : Int} (k : Known h) (C : List Value) (zs : List Int) (w : World) (hC : C = cellsU8 zs) (hz : zs.length = 64) :
    Calls Tryd.prog 44 #[.agg C.toArray, .int .i64 (szOf h)] w fun e w' => ∃ g, e = .returned (.slice (some ⟨g, 0, none⟩) (szOf h) (szOf h)) ∧ w'.ownsRow w.heap.size 5 1 (.slice (some ⟨g, 0, none⟩) (szOf h) (szOf h)) (szOf h) (cellsU8 (zs.take (szOf h))) ∧ Below w.heap.size w w' := by
  rcases k with rfl | rfl | rfl | rfl
  · exact first28 C zs w hC hz
  · exact first32 C zs w hC hz
  · exact first48 C zs w hC hz
  · exact first64 C zs w hC hz

set_option maxHeartbeats 1600000 in
set_option maxRecDepth 100000 in
/-- Stream.Sum. -/
theorem ssum (g : Nat) (h : Int) (s0 : Eight) (zs : List Int) (w : World) (k : Hid (Known h)) (hr : Hid (Rep w g 0 h (wdOf h) s0 0 zs)) (hT : Hid (Tables w)) (hfed : Hid (zs.length ≤ 1152921504606846976)) :
    Calls Tryd.prog 34 #[.pointer (some ⟨g, 0, none⟩)] w fun e w' => ∃ b, e = .returned (.slice (some ⟨b, 0, none⟩) (szOf h) (szOf h)) ∧ w'.ownsRow w.heap.size 5 1 (.slice (some ⟨b, 0, none⟩) (szOf h) (szOf h)) (szOf h) (cellsU8 ((spellL (wdOf h) (endW (wdOf h) s0 0 zs)).take (szOf h))) ∧ Below w.heap.size w w' := by
  obtain ⟨half, hk, hh, hf⟩ := hr.out
  obtain ⟨T, HTT⟩ : ∃ T : List Value, Hid (T = tkL h (wdOf h) (TT (wdOf h) (fnz zs) s0 (zs.length / bsz (wdOf h))) half (0 + zs.length)) := ⟨_, rfl⟩
  have HG : Hid (TkBig T) := by show TkBig T; rw [HTT.out]; exact tkBig _ _ _ _ _
  have HR : Hid (w.rangeAt g 0 T) := by show w.rangeAt g 0 T; rw [HTT.out]; exact hk.range
  have HX : Hid ((w.alloc (.cells Tryd.zeroCells68 68)).there w.heap.size 0 139) := there_new w Tryd.zeroCells68 68 139 (by rw [cells71z, size71z]; exact Nat.le_refl _)
  have HC0 : Hid (g < w.heap.size ∧ w.cell? ⟨g, 0, none⟩ = some (.int .i64 h)) := ⟨lt_of_cell hk.hash, hk.hash⟩
  have HREP : Hid (∀ v, v.rangeAt w.heap.size 0 T → v.there w.heap.size 0 139 → Rep v w.heap.size 0 h (wdOf h) s0 0 zs) := fun v hr ht => ⟨half, TK.of (by rw [← HTT.out]; exact hr) ht, hh, hf⟩
  clear hk hh hf
  go_enter Tryd.func34, Tryd.ntmps34
  go_upto_region 4 with (first
    | (refine wpList_load_mid (by rfl) 68 (.tmp 9) (by rfl) g 0 (by rfl) T _ HR.out Tryd.underlying68 rfl (by rw [HG.out.len]; exact size71) ?_)
    | (refine wpList_store_mid (by rfl) 68 (.tmp 3) (.tmp 10) (by rfl) w.heap.size 0 T.toArray (by rfl) (by rfl) (by rw [HG.out.size]; exact HX.out) HG.out.info HG.out.one ?_)
    | fail)
  have HR2 : Hid (((w.alloc (.cells Tryd.zeroCells68 68)).setCells w.heap.size 0 T).rangeAt w.heap.size 0 T) := World.rangeAt_setCells_same _ _ _ _ (by rw [HG.out.len]; exact HX.out)
  have HB2 : Hid (Below w.heap.size w ((w.alloc (.cells Tryd.zeroCells68 68)).setCells w.heap.size 0 T) ∧ ((w.alloc (.cells Tryd.zeroCells68 68)).setCells w.heap.size 0 T).there w.heap.size 0 139 ∧ ((w.alloc (.cells Tryd.zeroCells68 68)).setCells w.heap.size 0 T).heap.size = w.heap.size + 1) := ⟨below_setCells _ (Nat.le_refl _) _ _ _ ((Below.refl _ _).alloc (Nat.le_refl _) _), World.there_setCells HX.out _ _ _, by rw [size_setCells]; simp⟩
  generalize (w.alloc (.cells Tryd.zeroCells68 68)).setCells w.heap.size 0 T = w2 at HR2 HB2 ⊢
  clear HX HR
  go_wp2_with (first | (go_at_call 43; refine (finish_rep (wdOf h) w.heap.size 0 h s0 0 zs w2 k.out.block (HREP.out w2 HR2.out HB2.out.2.1) (by have := hfed.out; omega) (hT.out.below HB2.out.1 hT.out.size) hT.out.size).mono ?_))
  rintro e3 w3 ⟨rfl, ht3, _⟩
  obtain ⟨C, HC⟩ : ∃ C : List Value, Hid (C = cellsU8 (spellL (wdOf h) (endW (wdOf h) s0 0 zs))) := ⟨_, (show _ = _ from rfl)⟩
  rw [spellCells_eq, ← HC.out]
  have HL : Hid (C.length = 64) := by show C.length = 64; rw [HC.out, cellsU8_length, spellL_length]
  have HLA : Hid (C.toArray.size = 64) := by show C.toArray.size = 64; simpa using HL.out
  have HO : Hid (C.toArray.all (·.oneCell') = true) := all_oneCell_toArray (by rw [HC.out]; exact cellsU8_one _)
  have HB3 : Hid (Below w.heap.size w w3) := HB2.out.1.trans (ht3.toBelow (Nat.le_refl _) (by have := HB2.out.2.2; omega))
  have HX : Hid ((w3.alloc (.cells #[.int .u8 0, .int .u8 0, .int .u8 0, .int .u8 0, .int .u8 0, .int .u8 0, .int .u8 0, .int .u8 0, .int .u8 0, .int .u8 0, .int .u8 0, .int .u8 0, .int .u8 0, .int .u8 0, .int .u8 0, .int .u8 0, .int .u8 0, .int .u8 0, .int .u8 0, .int .u8 0, .int .u8 0, .int .u8 0, .int .u8 0, .int .u8 0, .int .u8 0, .int .u8 0, .int .u8 0, .int .u8 0, .int .u8 0, .int .u8 0, .int .u8 0, .int .u8 0, .int .u8 0, .int .u8 0, .int .u8 0, .int .u8 0, .int .u8 0, .int .u8 0, .int .u8 0, .int .u8 0, .int .u8 0, .int .u8 0, .int .u8 0, .int .u8 0, .int .u8 0, .int .u8 0, .int .u8 0, .int .u8 0, .int .u8 0, .int .u8 0, .int .u8 0, .int .u8 0, .int .u8 0, .int .u8 0, .int .u8 0, .int .u8 0, .int .u8 0, .int .u8 0, .int .u8 0, .int .u8 0, .int .u8 0, .int .u8 0, .int .u8 0, .int .u8 0] 80)).there w3.heap.size 0 64) := there_new w3 _ 80 64 (by decide)
  clear ht3
  go_upto_region 5 with (first
    | (refine wpList_store_mid (by rfl) 80 (.tmp 4) (.tmp 11) (by rfl) w3.heap.size 0 C.toArray (by rfl) (by rfl) (by rw [HLA.out]; exact HX.out) (by rw [HLA.out]; exact size75) HO.out ?_)
    | fail)
  have HR4 : Hid (((w3.alloc (.cells #[.int .u8 0, .int .u8 0, .int .u8 0, .int .u8 0, .int .u8 0, .int .u8 0, .int .u8 0, .int .u8 0, .int .u8 0, .int .u8 0, .int .u8 0, .int .u8 0, .int .u8 0, .int .u8 0, .int .u8 0, .int .u8 0, .int .u8 0, .int .u8 0, .int .u8 0, .int .u8 0, .int .u8 0, .int .u8 0, .int .u8 0, .int .u8 0, .int .u8 0, .int .u8 0, .int .u8 0, .int .u8 0, .int .u8 0, .int .u8 0, .int .u8 0, .int .u8 0, .int .u8 0, .int .u8 0, .int .u8 0, .int .u8 0, .int .u8 0, .int .u8 0, .int .u8 0, .int .u8 0, .int .u8 0, .int .u8 0, .int .u8 0, .int .u8 0, .int .u8 0, .int .u8 0, .int .u8 0, .int .u8 0, .int .u8 0, .int .u8 0, .int .u8 0, .int .u8 0, .int .u8 0, .int .u8 0, .int .u8 0, .int .u8 0, .int .u8 0, .int .u8 0, .int .u8 0, .int .u8 0, .int .u8 0, .int .u8 0, .int .u8 0, .int .u8 0] 80)).setCells w3.heap.size 0 C).rangeAt w3.heap.size 0 C) := World.rangeAt_setCells_same _ _ _ _ (by rw [HL.out]; exact HX.out)
  have HB4 : Hid (Below w.heap.size w ((w3.alloc (.cells #[.int .u8 0, .int .u8 0, .int .u8 0, .int .u8 0, .int .u8 0, .int .u8 0, .int .u8 0, .int .u8 0, .int .u8 0, .int .u8 0, .int .u8 0, .int .u8 0, .int .u8 0, .int .u8 0, .int .u8 0, .int .u8 0, .int .u8 0, .int .u8 0, .int .u8 0, .int .u8 0, .int .u8 0, .int .u8 0, .int .u8 0, .int .u8 0, .int .u8 0, .int .u8 0, .int .u8 0, .int .u8 0, .int .u8 0, .int .u8 0, .int .u8 0, .int .u8 0, .int .u8 0, .int .u8 0, .int .u8 0, .int .u8 0, .int .u8 0, .int .u8 0, .int .u8 0, .int .u8 0, .int .u8 0, .int .u8 0, .int .u8 0, .int .u8 0, .int .u8 0, .int .u8 0, .int .u8 0, .int .u8 0, .int .u8 0, .int .u8 0, .int .u8 0, .int .u8 0, .int .u8 0, .int .u8 0, .int .u8 0, .int .u8 0, .int .u8 0, .int .u8 0, .int .u8 0, .int .u8 0, .int .u8 0, .int .u8 0, .int .u8 0, .int .u8 0] 80)).setCells w3.heap.size 0 C)) := below_setCells _ HB3.out.size _ _ _ (HB3.out.alloc HB3.out.size _)
  have HS4 : Hid (((w3.alloc (.cells #[.int .u8 0, .int .u8 0, .int .u8 0, .int .u8 0, .int .u8 0, .int .u8 0, .int .u8 0, .int .u8 0, .int .u8 0, .int .u8 0, .int .u8 0, .int .u8 0, .int .u8 0, .int .u8 0, .int .u8 0, .int .u8 0, .int .u8 0, .int .u8 0, .int .u8 0, .int .u8 0, .int .u8 0, .int .u8 0, .int .u8 0, .int .u8 0, .int .u8 0, .int .u8 0, .int .u8 0, .int .u8 0, .int .u8 0, .int .u8 0, .int .u8 0, .int .u8 0, .int .u8 0, .int .u8 0, .int .u8 0, .int .u8 0, .int .u8 0, .int .u8 0, .int .u8 0, .int .u8 0, .int .u8 0, .int .u8 0, .int .u8 0, .int .u8 0, .int .u8 0, .int .u8 0, .int .u8 0, .int .u8 0, .int .u8 0, .int .u8 0, .int .u8 0, .int .u8 0, .int .u8 0, .int .u8 0, .int .u8 0, .int .u8 0, .int .u8 0, .int .u8 0, .int .u8 0, .int .u8 0, .int .u8 0, .int .u8 0, .int .u8 0, .int .u8 0] 80)).setCells w3.heap.size 0 C).heap.size = w3.heap.size + 1) := by show _ = _; rw [size_setCells]; simp
  generalize (w3.alloc (.cells #[.int .u8 0, .int .u8 0, .int .u8 0, .int .u8 0, .int .u8 0, .int .u8 0, .int .u8 0, .int .u8 0, .int .u8 0, .int .u8 0, .int .u8 0, .int .u8 0, .int .u8 0, .int .u8 0, .int .u8 0, .int .u8 0, .int .u8 0, .int .u8 0, .int .u8 0, .int .u8 0, .int .u8 0, .int .u8 0, .int .u8 0, .int .u8 0, .int .u8 0, .int .u8 0, .int .u8 0, .int .u8 0, .int .u8 0, .int .u8 0, .int .u8 0, .int .u8 0, .int .u8 0, .int .u8 0, .int .u8 0, .int .u8 0, .int .u8 0, .int .u8 0, .int .u8 0, .int .u8 0, .int .u8 0, .int .u8 0, .int .u8 0, .int .u8 0, .int .u8 0, .int .u8 0, .int .u8 0, .int .u8 0, .int .u8 0, .int .u8 0, .int .u8 0, .int .u8 0, .int .u8 0, .int .u8 0, .int .u8 0, .int .u8 0, .int .u8 0, .int .u8 0, .int .u8 0, .int .u8 0, .int .u8 0, .int .u8 0, .int .u8 0, .int .u8 0] 80)).setCells w3.heap.size 0 C = w4 at HR4 HB4 HS4 ⊢
  have HC4 : Hid (w4.cell? ⟨g, 0, none⟩ = some (.int .i64 h)) := by rw [HB4.out.cell (p := ⟨g, 0, none⟩) HC0.out.1]; exact HC0.out.2
  clear HX HB3 HB2 HR2 HREP HC0
  have HZ : Hid ((spellL (wdOf h) (endW (wdOf h) s0 0 zs)).length = 64) := spellL_length _ _
  have hu75 := Tryd.underlying80
  have hi75 : (Tryd.prog.info? 80).map (·.size) = some C.length := by rw [HL.out]; exact size75
  go_region_held3 (fun v => v.rangeAt w3.heap.size 0 C ∧ v.cell? ⟨g, 0, none⟩ = some (.int .i64 h)) (first | exact ⟨HR4.out, HC4.out⟩ | go_keep | exact hS6) (first
    | (go_at_call 32; refine (ssize g h w4.drew k (show Hid (w4.drew.cell? ⟨g, 0, none⟩ = some (.int .i64 h)) from HC4)).mono ?_; rintro e5 w5 ⟨rfl, hw5⟩; obtain rfl := hw5.symm)
    | (go_at_call 44; refine (first_any k.out C _ w4.drew HC.out HZ.out).mono ?_; rintro e6 w6 ⟨b, rfl, ho6, hb6⟩; have hS6 : w6.rangeAt w3.heap.size 0 C ∧ w6.cell? ⟨g, 0, none⟩ = some (.int .i64 h) := ⟨fun j v hv => by rw [hb6.cell (p := ⟨w3.heap.size, 0 + j, none⟩) (show w3.heap.size < w4.heap.size by have := HS4.out; omega)]; exact HR4.out j v hv, by rw [hb6.cell (p := ⟨g, 0, none⟩) (show g < w4.heap.size from lt_of_cell HC4.out)]; exact HC4.out⟩))
  have HQ : Hid (w6.ownsRow w.heap.size 5 1 (.slice (some ⟨b, 0, none⟩) (szOf h) (szOf h)) (szOf h) (cellsU8 ((spellL (wdOf h) (endW (wdOf h) s0 0 zs)).take (szOf h))) ∧ Below w.heap.size w w6) := ⟨owns_mono ho6 HB4.out.size, HB4.out.drew.trans (hb6.mono HB4.out.size)⟩
  clear ho6 hb6 hS6
  go_wp2
  go_ret
  exact ⟨b, rfl, HQ.out.1, HQ.out.2⟩

end Go.Proofs.YtcopkohklgbpgabDoor
namespace Go.Proofs.YtcopkohklgbpgabDoor
open Go.RowKit Go.Shelf
set_option linter.unusedVariables false
set_option linter.unusedSimpArgs false
/-- A digest, as bytes. -/
def sumD (h : Int) (zs : List Int) : List Int := (spellL (wdOf h) (endW (wdOf h) (firstE h) 0 zs)).take (szOf h)
/-- A piece's number in four bytes. -/
def be4 (c : Nat) : List Int := [(c : Int) / 16777216 % 256, (c : Int) / 65536 % 256, (c : Int) / 256 % 256, (c : Int) % 256]
/-- Piece c, of d bytes from p on, becomes its digest's beginning. -/
def pieceF (h : Int) (c p d : Nat) (f : Nat → Int) (j : Nat) : Int :=
  if p ≤ j ∧ j < p + d then (sumD h (be4 c ++ (List.range d).map (fun q => f (p + q)))).getD (j - p) 0 else f j
def stepF (h : Int) (sz len : Nat) (f : Nat → Int) (x : Nat) : Nat → Int := pieceF h (clp sz len x) (clp sz len x * sz) (pcl sz len x) f
/-- Diffuse. -/
def diffF (h : Int) (len : Nat) (f : Nat → Int) : Nat → Int := (List.range ((len + szOf h - 1) / szOf h)).foldl (stepF h (szOf h) len) f
theorem cnt_iff (len sz : Nat) (hsz : 1 ≤ sz) (j : Nat) : j < (len + sz - 1) / sz ↔ j * sz < len := by
  rw [Nat.lt_iff_add_one_le, Nat.le_div_iff_mul_le (by omega), Nat.succ_mul]
  omega
theorem szOf_pos {h : Int} (k : Known h) : 1 ≤ szOf h ∧ szOf h ≤ 64 := by rcases k with rfl | rfl | rfl | rfl <;> decide
theorem clp_lt (sz len x : Nat) (h : 0 < len) : clp sz len x * sz < len := by
  unfold clp
  split
  · assumption
  · simpa using h
theorem pcl_le (sz len x : Nat) (hsz : 1 ≤ sz) (h : 0 < len) : clp sz len x * sz + pcl sz len x ≤ len ∧ pcl sz len x ≤ sz ∧ 1 ≤ pcl sz len x := by
  have := clp_lt sz len x h
  unfold pcl
  rw [Nat.succ_mul]
  omega
/-- What hangs on one block is kept where that block is. -/
theorem Buf.kept {w v : World} {g u : Nat} {f : Nat → Int} (h : Buf w g f u) (hb : v.heap[g]? = w.heap[g]?) : Buf v g f u :=
  ⟨fun i hi => by rw [World.cell?_of_block (w := w) hb]; exact h.room i hi, by rw [World.cell?_of_block (w := w) hb]; exact h.used, fun j hj => by rw [World.cell?_of_block (w := w) hb, World.frozen?_of_block (w := w) hb]; exact h.there j hj⟩
theorem Mx.kept {w v : World} {g s u : Nat} {f : Nat → Int} (h : Mx w g s f u) (hb : v.heap[g]? = w.heap[g]?) : Mx v g s f u := ⟨h.1.kept hb, by rw [World.cell?_of_block (w := w) hb]; exact h.2⟩
theorem TK.kept {w v : World} {g o : Nat} {h : Int} {wd : Bool} {s : Eight} {half : Nat → Int} {fed : Nat} (k : TK w g o h wd s half fed) (hb : v.heap[g]? = w.heap[g]?) : TK v g o h wd s half fed :=
  ⟨by rw [World.cell?_of_block (w := w) hb]; exact k.hash, by rw [World.cell?_of_block (w := w) hb]; exact k.fn, fun j x hx => by rw [World.cell?_of_block (w := w) hb]; exact k.st j x hx, fun i hi => by rw [World.cell?_of_block (w := w) hb]; exact k.half i hi, by rw [World.cell?_of_block (w := w) hb]; exact k.fed, fun j hj => by rw [World.cell?_of_block (w := w) hb, World.frozen?_of_block (w := w) hb]; exact k.there j hj⟩
theorem Rep.kept {w v : World} {g o : Nat} {h : Int} {wd : Bool} {s0 : Eight} {f0 : Nat} {zs : List Int} (k : Rep w g o h wd s0 f0 zs) (hb : v.heap[g]? = w.heap[g]?) : Rep v g o h wd s0 f0 zs := by
  obtain ⟨half, hk, h1, h2⟩ := k
  exact ⟨half, hk.kept hb, h1, h2⟩
/-- What a mixer is between two calls. -/
structure Mix (w : World) (g s : Nat) (h : Int) (f : Nat → Int) (u : Nat) : Prop where
  mx : Mx w g s f u
  rep : ∃ s0 zs, Rep w s 0 h (wdOf h) s0 0 zs
  tab : Tables w
theorem Mix.gt {w : World} {g s u : Nat} {h : Int} {f : Nat → Int} (k : Mix w g s h f u) : g < w.heap.size := k.mx.1.lt
theorem Mix.st {w : World} {g s u : Nat} {h : Int} {f : Nat → Int} (k : Mix w g s h f u) : s < w.heap.size := by obtain ⟨_, _, r⟩ := k.rep; exact r.lt
theorem Mix.kept {w v : World} {g s u : Nat} {h : Int} {f : Nat → Int} (k : Mix w g s h f u) (hg : v.heap[g]? = w.heap[g]?) (hs : v.heap[s]? = w.heap[s]?) (ht : ∀ j, j < 4 → v.heap[j]? = w.heap[j]?) : Mix v g s h f u := by
  obtain ⟨s0, zs, r⟩ := k.rep
  exact ⟨k.mx.kept hg, ⟨s0, zs, r.kept hs⟩, k.tab.kept ht⟩
theorem Mix.below {w v : World} {g s u : Nat} {h : Int} {f : Nat → Int} (k : Mix w g s h f u) (b : Below w.heap.size w v) : Mix v g s h f u :=
  k.kept (b.block g k.gt) (b.block s k.st) (fun j hj => b.block j (by have := k.tab.size; omega))
theorem cells_at {w : World} {p : Addr} {v : Value} (h : w.cell? p = some v) : ∃ o : Obj, w.heap[p.block]? = some o ∧ o.isCells = true := cells_of_cell h
/-- Whatever is no cells stays. -/
theorem Tw.keeps {w v : World} {g s u : Nat} {h : Int} {f : Nat → Int} (t : Tw w v g s) (k : Mix w g s h f u) : KeepsOthers w v := by
  refine ⟨t.size, fun i o hi ho => ?_⟩
  have hlt : i < w.heap.size := (Array.getElem?_eq_some_iff.1 hi).1
  have hg : i ≠ g := by
    rintro rfl
    obtain ⟨o', h1, h2⟩ := cells_of_cell k.mx.2
    rw [hi] at h1
    injection h1 with h1
    rw [h1, h2] at ho
    cases ho
  have hs : i ≠ s := by
    rintro rfl
    obtain ⟨s0, zs, half, hk, _, _⟩ := k.rep
    obtain ⟨o', h1, h2⟩ := cells_of_cell hk.hash
    rw [hi] at h1
    injection h1 with h1
    rw [h1, h2] at ho
    cases ho
  rw [t.block i hlt hg hs]
  exact hi
theorem Tw.boxes {w v : World} {g s Bl Bs : Nat} (t : Tw w v g s) (h1 : Bl < w.heap.size) (h2 : Bs < w.heap.size) (a1 : Bl ≠ g) (a2 : Bl ≠ s) (a3 : Bs ≠ g) (a4 : Bs ≠ s) : Kbx Bl Bs w v :=
  ⟨World.cell?_of_block (t.block Bl h1 a1 a2), World.cell?_of_block (t.block Bs h2 a3 a4)⟩
/-- What the loop's own book-keeping leaves. -/
theorem below_turn {W W' : World} {row : Option Nat} {B N : Nat} (hg : W.grownBy W' row) (hr : ∀ r, row = some r → B ≤ r ∧ ∃ o : Obj, W.heap[r]? = some o ∧ o.isCells = false) (hN : N ≤ B) (hW : N ≤ W.heap.size) : Below N W W' :=
  (Below.refl N W).grown hg hW (fun k e => by have := (hr k e).1; omega)
theorem Tw.later {w v v' : World} {g s : Nat} (t : Tw w v g s) (b : Below w.heap.size v v') : Tw w v' g s :=
  ⟨b.os.trans t.os, b.tape.trans t.tape, b.output.trans t.output, Nat.le_trans t.size b.size, fun k hk h1 h2 => (b.block k hk).trans (t.block k hk h1 h2)⟩
theorem Tw.setG {w v : World} {g s : Nat} (t : Tw w v g s) (o : Nat) (vs : List Value) : Tw w (v.setCells g o vs) g s :=
  ⟨by rw [setCells_os]; exact t.os, by rw [setCells_tape]; exact t.tape, by rw [setCells_output]; exact t.output, by rw [size_setCells]; exact t.size, fun k hk h1 h2 => (World.heap_setCells_other v g o vs (Nat.lt_of_lt_of_le hk t.size) h1).trans (t.block k hk h1 h2)⟩
theorem Tw.setNew {w v : World} {g s b : Nat} (t : Tw w v g s) (hb : w.heap.size ≤ b) (o : Nat) (vs : List Value) : Tw w (v.setCells b o vs) g s :=
  ⟨by rw [setCells_os]; exact t.os, by rw [setCells_tape]; exact t.tape, by rw [setCells_output]; exact t.output, by rw [size_setCells]; exact t.size, fun k hk h1 h2 => (World.heap_setCells_other v b o vs (Nat.lt_of_lt_of_le hk t.size) (by omega)).trans (t.block k hk h1 h2)⟩
theorem Tw.below {w v v' : World} {g s : Nat} (t : Tw w v g s) (b : Below v.heap.size v v') : Tw w v' g s := t.trans (Below.tw b g s)
/-- Bytes laid into a buffer. -/
theorem Buf.laid {w : World} {g u p : Nat} {f : Nat → Int} (h : Buf w g f u) (L : List Int) (hp : p + L.length ≤ 1024) : Buf (w.setCells g p (cellsU8 L)) g (fun j => if p ≤ j ∧ j < p + L.length then L.getD (j - p) 0 else f j) u := by
  have hl := cellsU8_length L
  have hout : ∀ j, (j < p ∨ p + L.length ≤ j) → (w.setCells g p (cellsU8 L)).cell? ⟨g, j, none⟩ = w.cell? ⟨g, j, none⟩ := fun j hj => World.cell?_setCells_out g (cellsU8 L) p w ⟨g, j, none⟩ (fun _ _ => by
    rw [hl]
    exact hj)
  refine ⟨fun i hi => ?_, ?_, fun j hj => World.there_setCells h.there g p _ j hj⟩
  · by_cases hin : p ≤ i ∧ i < p + L.length
    · rw [if_pos hin]
      have q := World.cell?_setCells_in g (cellsU8 L) p w (fun j hj => by
        have := (h.there (p + j) (by rw [hl] at hj; omega)).1
        rwa [Nat.zero_add] at this) (i - p) (by rw [hl]; omega)
      rw [show p + (i - p) = i by omega] at q
      rw [q]
      simp [cellsU8, List.getD, List.getElem?_eq_getElem (show i - p < L.length by omega)]
    · rw [if_neg hin, hout i (by omega)]
      exact h.room i hi
  · rw [hout 1024 (by omega)]
    exact h.used
theorem viewOwns {w : World} {B n : Nat} {v : Value} {zs : List Int} (h : w.ownsRow B 5 1 v n (cellsU8 zs)) (hn : zs.length = n) : View w v zs := by
  have h0 := h
  rcases h.2 with ⟨rfl, e0⟩ | ⟨g, c, cur, rfl, q1, q2, q3, q4, q5, q6⟩
  · refine ⟨none, 0, by rw [hn, e0], by omega, by simp [maxLen], fun _ => rfl, Or.inl (List.eq_nil_of_length_eq_zero (by omega))⟩
  · refine ⟨some ⟨g, 0, none⟩, c, by rw [hn], by omega, q4, (fun e => by cases e), Or.inr ⟨g, 0, rfl, fun i hi => ?_⟩⟩
    have hc := h0.cells (g := g) rfl i (.int .u8 (zs.getD i 0)) (by simp [cellsU8, List.getD, List.getElem?_eq_getElem hi])
    rw [Addr.add_lit] at hc
    exact hc
theorem Buf.view {w : World} {g u p d : Nat} {f : Nat → Int} (h : Buf w g f u) (hp : p + d ≤ 1024) (c : Nat) (hc : d ≤ c) (hc2 : c ≤ 1024) : View w (.slice (some ⟨g, p, none⟩) d c) ((List.range d).map fun q => f (p + q)) := by
  refine ⟨_, c, by simp, by simpa using hc, by unfold maxLen; omega, (fun e => by cases e), .inr ⟨g, p, rfl, fun i hi => ?_⟩⟩
  simp at hi
  rw [h.room (p + i) (by omega)]
  simp [List.getD, hi]
theorem Fresh.below {w v : World} {s : Nat} {h : Int} (k : Fresh w s h) (b : Below w.heap.size w v) : Fresh v s h := Rep.below k b
end Go.Proofs.YtcopkohklgbpgabDoor
namespace Go.Proofs.YtcopkohklgbpgabDoor
open Go.RowKit
set_option linter.unusedVariables false
theorem fnz_laid (bs : Nat) (zs : List Int) (P : Nat) : fnz (laidL bs zs) P = if P < zs.length then fnz zs P else if P = zs.length then 128 else if P < zs.length + 1 + padK bs zs.length then 0 else fnz (bitsL bs zs.length) (P - (zs.length + 1 + padK bs zs.length)) := by
  unfold laidL
  by_cases h1 : P < zs.length
  · rw [if_pos h1, List.append_assoc, fnz_left _ _ _ h1]
  · rw [if_neg h1]
    have e : (zs ++ ([128] ++ List.replicate (padK bs zs.length) 0)).length = zs.length + 1 + padK bs zs.length := by simp; omega
    by_cases h2 : P = zs.length
    · rw [if_pos h2, h2, List.append_assoc]
      have := fnz_right zs ([128] ++ List.replicate (padK bs zs.length) (0 : Int) ++ bitsL bs zs.length) 0
      rw [Nat.add_zero] at this
      rw [this]
      rfl
    · rw [if_neg h2]
      by_cases h3 : P < zs.length + 1 + padK bs zs.length
      · rw [if_pos h3, fnz_left _ _ _ (by rw [e]; exact h3)]
        have := fnz_right zs ([128] ++ List.replicate (padK bs zs.length) (0 : Int)) (P - zs.length)
        rw [show zs.length + (P - zs.length) = P by omega] at this
        rw [this]
        have h4 := fnz_right [128] (List.replicate (padK bs zs.length) (0 : Int)) (P - zs.length - 1)
        rw [show [(128 : Int)].length + (P - zs.length - 1) = P - zs.length by simp; omega] at h4
        rw [h4]
        simp only [fnz, List.getD, List.getElem?_replicate]
        split <;> rfl
      · rw [if_neg h3]
        have := fnz_right (zs ++ ([128] ++ List.replicate (padK bs zs.length) (0 : Int))) (bitsL bs zs.length) (P - (zs.length + 1 + padK bs zs.length))
        rw [e, show zs.length + 1 + padK bs zs.length + (P - (zs.length + 1 + padK bs zs.length)) = P by omega] at this
        exact this
theorem fnz_bits (bs n j : Nat) (hj : j < bs / 8) : fnz (bitsL bs n) j = if 8 ≤ bs / 8 - 1 - j then 0 else ((n : Int) * 8) / 2 ^ (8 * (bs / 8 - 1 - j)) % 256 := by
  rw [fnz, List.getD_eq_getElem?_getD, bitsL_at bs n j hj]
  rfl
theorem laid_blocks (wd : Bool) (zs : List Int) : (laidL (bsz wd) zs).length = bsz wd * (zs.length / bsz wd + padN (bsz wd) zs.length) := by
  rw [laidL_length]
  cases wd
  · simp only [bsz, Bool.false_eq_true, if_false]
    unfold padK padN
    split <;> omega
  · simp only [bsz, if_true]
    unfold padK padN
    split <;> omega
theorem laid_pad (wd : Bool) (zs : List Int) (k : Nat) (hk : k < bsz wd * padN (bsz wd) zs.length) : fnz (laidL (bsz wd) zs) (bsz wd * (zs.length / bsz wd) + k) = padF (bsz wd) (fun i => fnz zs (bsz wd * (zs.length / bsz wd) + i)) zs.length k := by
  have hb := laid_blocks wd zs
  rw [laidL_length] at hb
  rw [fnz_laid]
  unfold padF
  have hd : bsz wd * (zs.length / bsz wd) + zs.length % bsz wd = zs.length := Nat.div_add_mod _ _
  by_cases h1 : k < zs.length % bsz wd
  · rw [if_pos (by omega), if_pos h1]
  · rw [if_neg (by omega), if_neg h1]
    by_cases h2 : k = zs.length % bsz wd
    · rw [if_pos (by omega), if_pos h2]
    · rw [if_neg (by omega), if_neg h2]
      rw [Nat.mul_add] at hb
      rw [Nat.mul_comm (padN _ _)]
      by_cases h3 : bsz wd * (zs.length / bsz wd) + k < zs.length + 1 + padK (bsz wd) zs.length
      · rw [if_pos h3, if_pos (by cases wd <;> simp only [bsz, Bool.false_eq_true, if_false, if_true] at * <;> omega)]
      · rw [if_neg h3, fnz_bits _ _ _ (by omega)]
        have e : bsz wd / 8 - 1 - (bsz wd * (zs.length / bsz wd) + k - (zs.length + 1 + padK (bsz wd) zs.length)) = bsz wd * padN (bsz wd) zs.length - 1 - k := by omega
        rw [e]
        by_cases h4 : k + 8 < bsz wd * padN (bsz wd) zs.length
        · rw [if_pos (by omega), if_pos h4]
        · rw [if_neg (by omega), if_neg h4]
/-- What is laid down whole and taken block by block ends in the same words. -/
theorem endW_laid (wd : Bool) (s0 : Eight) (zs : List Int) : TT wd (fnz (laidL (bsz wd) zs)) s0 ((laidL (bsz wd) zs).length / bsz wd) = endW wd s0 0 zs := by
  have hb := bsz_pos wd
  rw [laid_blocks, Nat.mul_div_cancel_left _ hb, TT_add]
  unfold endW
  rw [Nat.zero_add]
  have h1 : TT wd (fnz (laidL (bsz wd) zs)) s0 (zs.length / bsz wd) = TT wd (fnz zs) s0 (zs.length / bsz wd) := TT_congr wd s0 _ fun j hj => by
    have := Nat.mul_div_le zs.length (bsz wd)
    rw [fnz_laid, if_pos (by omega)]
  rw [h1]
  exact TT_congr wd _ _ fun k hk => laid_pad wd zs k hk
theorem padN_pos (bs n : Nat) : 1 ≤ padN bs n := by unfold padN; split <;> omega
end Go.Proofs.YtcopkohklgbpgabDoor
