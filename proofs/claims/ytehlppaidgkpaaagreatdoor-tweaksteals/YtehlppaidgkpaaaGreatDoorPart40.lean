import Derived.Test.YtehlppaidgkpaaaGreatDoorPart39
import Derived.Test.YtehlppaidgkpaaaGreatDoorPart04
import Derived.Test.YtehlppaidgkpaaaGreatDoorPart37
namespace Go.Proofs.YtehlppaidgkpaaaGreatDoor.Dg
open Go.RowKit
set_option linter.unusedVariables false
set_option linter.unusedSimpArgs false
theorem owns_some {w : World} {B n : Nat} {v : Value} {cs : List Value} (h : w.ownsRow B 5 1 v n cs) (h0 : 0 < n) : ∃ g c, v = .slice (some ⟨g, 0, none⟩) n c := by
  rcases h.2 with ⟨_, e⟩ | ⟨g, c, cur, rfl, _⟩
  · omega
  · exact ⟨g, c, rfl⟩
theorem one_cell (w : World) (x : Int) (t : TypeId) : ∀ j u, [Value.int .u8 x][j]? = some u → (w.alloc (.cells #[.int .u8 x] t)).cell? ((⟨w.heap.size, 0, none⟩ : Addr).add j) = some u := by
  intro j u hj
  match j, hj with
  | 0, hj => simp at hj; subst hj; simp [Addr.add]
theorem one_one (x : Int) : ∀ u ∈ [Value.int .u8 x], u.oneCell' = true := by
  intro u hu; simp at hu; subst hu; rfl
/-- How many zeros. -/
def padK (bs n : Nat) : Nat := (bs - (n + 1 + bs / 8) % bs) % bs
/-- The number of bits, as bytes. -/
def bitsL (bs n : Nat) : List Int := (List.range (bs / 8)).map fun j => if 8 ≤ bs / 8 - 1 - j then 0 else ((n : Int) * 8) / 2 ^ (8 * (bs / 8 - 1 - j)) % 256
def laidL (bs : Nat) (zs : List Int) : List Int := zs ++ ([128] ++ List.replicate (padK bs zs.length) 0) ++ bitsL bs zs.length
theorem bitsL_length (bs n : Nat) : (bitsL bs n).length = bs / 8 := by simp [bitsL]
theorem bitsL_at (bs n j : Nat) (hj : j < bs / 8) : (bitsL bs n)[j]? = some (if 8 ≤ bs / 8 - 1 - j then 0 else ((n : Int) * 8) / 2 ^ (8 * (bs / 8 - 1 - j)) % 256) := by simp [bitsL, hj]
theorem laidL_length (bs : Nat) (zs : List Int) : (laidL bs zs).length = zs.length + 1 + padK bs zs.length + bs / 8 := by
  simp [laidL, bitsL_length]
  omega
set_option maxHeartbeats 1600000 in
set_option maxRecDepth 100000 in
theorem rlaid64_some (x : Addr) (cap : Nat) (zs : List Int) (n : Nat) (w : World) (hz : Hid (zs.length = n)) (hn : n ≤ 140737488351232) (h1 : Hid (∀ j u, (cellsU8 zs)[j]? = some u → w.cell? (x.add j) = some u)) :
    Calls Tryz.prog 70 #[.slice (some x) n cap, .int .i64 64] w fun e w' => ∃ v, e = .returned v ∧ w'.ownsRow w.heap.size 5 1 v (laidL 64 zs).length (cellsU8 (laidL 64 zs)) ∧ Below w.heap.size w w' := by
  obtain ⟨i0, hi, hz0, hz1, hz2⟩ := info_parts Tryz.info5
  go_enter Tryz.func70, Tryz.ntmps70
  go_wp2_with (first
    | (at_builtin; go_must (refine wpList_append_own _ rfl (.tmp 8) (.tmp 9) 22 rfl w.heap.size 5 i0 (.int .u8 0) 1 1 Tryz.underlying22 hi hz0 hz1 hz2 rfl (by decide) _ 0 [] rfl (World.ownsRow_nil _ _ _ _) x n cap (cellsU8 zs) rfl ?_ h1.out (cellsU8_one zs) ?_ ?_ (Nat.le_refl _) ?_)))
  · rw [cellsU8_length, hz.out, Nat.mul_one]
  · unfold maxLen; omega
  · omega
  intro v1 w1 hown hgrow hnil
  have HB : Hid (Below w.heap.size w w1) := (Below.refl _ _).grown hgrow (Nat.le_refl _) (by intro k hk; cases hk)
  have hown1 : w1.ownsRow w.heap.size 5 1 v1 n (cellsU8 zs) := by simpa using hown
  clear hgrow hown hnil
  go_wp2_with (first
    | (at_builtin; go_must (refine wpList_append_own _ rfl (.tmp 11) (.tmp 12) 22 rfl w.heap.size 5 i0 (.int .u8 0) 1 1 Tryz.underlying22 hi hz0 hz1 hz2 rfl (by decide) _ _ _ rfl (hown1.alloc _) ⟨w1.heap.size, 0, none⟩ 1 1 [.int .u8 128] rfl rfl (one_cell _ _ _) (one_one _) (by unfold maxLen; omega) (by omega) (by have := HB.out.size; rw [size_alloc]; omega) ?_)))
  intro v2 w2 hown2 hgrow2 hnil2
  have HB2 : Hid (Below w.heap.size w w2) := (HB.out.alloc HB.out.size _).grown hgrow2 (by have := HB.out.size; rw [size_alloc]; omega) (fun q hq => (hown1.lt q hq).1)
  have ho2 : w2.ownsRow w.heap.size 5 1 v2 (n + 1) (cellsU8 (zs ++ [128])) := by
    have e : cellsU8 (zs ++ [128]) = cellsU8 (zs) ++ [.int .u8 128] := by simp [cellsU8, List.replicate_succ']
    rw [e]
    simpa [Nat.add_assoc] using hown2
  clear hown2 hgrow2 hnil2
  obtain ⟨g2, c2, rfl⟩ := owns_some ho2 (by omega)
  have HO2 : Hid (w2.ownsRow w.heap.size 5 1 (.slice (some ⟨g2, 0, none⟩) (n + 1) c2) (n + 1) (cellsU8 (zs ++ [128]))) := ho2
  have HK : Hid (padK 64 n < 64 ∧ (n + 1 + padK 64 n + 8) % 64 = 0) := by unfold padK; exact ⟨by omega, by omega⟩
  obtain ⟨K, hK⟩ : ∃ K, Hid (K = padK 64 n) := ⟨_, rfl⟩
  rw [← hK.out] at HK
  clear ho2 hown1 HB
  go_wp2
  go_loopw [5] (fun v wr => ∃ k l g c : Nat, Hid (k ≤ K ∧ l = n + 1 + k) ∧ v = .slice (some ⟨g, 0, none⟩) l c ∧ Hid (wr.ownsRow w.heap.size 5 1 (.slice (some ⟨g, 0, none⟩) l c) l (cellsU8 (zs ++ ([128] ++ List.replicate k 0)))) ∧ Hid (Below w.heap.size w wr)) (fun v _ => n + 1 + K - lenOf v)
  case atStart => exact ⟨0, n + 1, g2, c2, ⟨by omega, rfl⟩, rfl, HO2, HB2⟩
  case round =>
    obtain ⟨k, l, g, c, HL, rfl, HO3, HB3⟩ := hrel
    clear HO2 HB2
    have hlw : IntKind.i64.wrap ((l : Int) + 8) = (l : Int) + 8 := by
      have := HL.out; have := HK.out
      rw [IntKind.wrap_i64]
      omega
    by_cases hlt : k < K
    · have d1 : ¬ ((l : Int) + 8) % 64 = 0 := by
        have := HL.out; have := HK.out
        omega
      have hl0 : 0 < l := by have := HL.out; omega
      have hl1 : l ≤ 140737488352000 := by have := HL.out; have := HK.out; omega
      go_wp2_with (first
        | (at_builtin; go_must (refine wpList_append_own _ rfl (.tmp 22) (.tmp 23) 22 rfl w.heap.size 5 i0 (.int .u8 0) 1 1 Tryz.underlying22 hi hz0 hz1 hz2 rfl (by decide) _ _ _ rfl (HO3.out.alloc _) ⟨wr.heap.size, 0, none⟩ 1 1 [.int .u8 0] rfl rfl (one_cell _ _ _) (one_one _) (by unfold maxLen; omega) (by omega) (by have := HB3.out.size; rw [size_alloc]; omega) ?_)))
      intro v4 w4 hown4 hgrow4 hnil4
      have HB4 : Hid (Below w.heap.size w w4) := (HB3.out.alloc HB3.out.size _).grown hgrow4 (by have := HB3.out.size; rw [size_alloc]; omega) (fun q hq => (HO3.out.lt q hq).1)
      have ho4 : w4.ownsRow w.heap.size 5 1 v4 (l + 1) (cellsU8 (zs ++ ([128] ++ List.replicate (k + 1) 0))) := by
        have e : cellsU8 (zs ++ ([128] ++ List.replicate (k + 1) 0)) = cellsU8 (zs ++ ([128] ++ List.replicate k 0)) ++ [.int .u8 0] := by simp [cellsU8, List.replicate_succ']
        rw [e]
        simpa [Nat.add_assoc] using hown4
      clear hown4 hgrow4 hnil4
      obtain ⟨g4, c4, rfl⟩ := owns_some ho4 (by omega)
      have HO4 : Hid (w4.ownsRow w.heap.size 5 1 (.slice (some ⟨g4, 0, none⟩) (l + 1) c4) (l + 1) (cellsU8 (zs ++ ([128] ++ List.replicate (k + 1) 0)))) := ho4
      clear ho4 HO3 HB3
      go_wp2
      go_roundw
      case rel => exact ⟨k + 1, l + 1, g4, c4, ⟨by omega, by have := HL.out; omega⟩, rfl, HO4, HB4⟩
      case measure => have := HL.out; simp [lenOf]; omega
    · have d1 : ((l : Int) + 8) % 64 = 0 := by
        have := HL.out; have := HK.out
        omega
      have hkK : k = K := by have := HL.out; omega
      have hbits : IntKind.u64.wrap ((n : Int) * 8) = (n : Int) * 8 := by
        rw [IntKind.wrap_u64]
        omega
      have hl1 : l ≤ 140737488352000 := by have := HL.out; have := HK.out; omega
      go_wp2
      obtain rfl := hkK
      clear d1 hlt hlw
      go_loopw [5, 7] (fun v vi wr => ∃ m l2 g c : Nat, Hid (m ≤ 8 ∧ l2 = l + (8 - m)) ∧ vi = .int .i64 ((m : Int) - 1) ∧ v = .slice (some ⟨g, 0, none⟩) l2 c ∧ Hid (wr.ownsRow w.heap.size 5 1 (.slice (some ⟨g, 0, none⟩) l2 c) l2 (cellsU8 (zs ++ ([128] ++ List.replicate k 0) ++ (bitsL 64 n).take (8 - m)))) ∧ Hid (Below w.heap.size w wr)) (fun _ vi _ => (intOf vi + 1).toNat)
      case atStart => exact ⟨8, l, g, c, ⟨by omega, by omega⟩, rfl, rfl, (by simpa using HO3.out : World.ownsRow _ _ _ _ _ _ _), HB3⟩
      case round =>
        obtain ⟨m, l2, g5, c5, HL2, rfl, rfl, HO5, HB5⟩ := hrel
        clear HO3 HB3
        rcases m with _ | i
        · rw [show ((0 : Nat) : Int) - 1 = -1 from rfl]
          go_wp2
          go_ret
          refine ⟨_, rfl, ?_, HB5.out⟩
          have hl2 : l2 = (laidL 64 zs).length := by
            rw [laidL_length, hz.out]
            have h1 := HL2.out; have h2 := HL.out; have h3 := hK.out
            unfold padK at h3 ⊢
            omega
          have hc : cellsU8 (laidL 64 zs) = cellsU8 (zs ++ ([128] ++ List.replicate k 0) ++ (bitsL 64 n).take (8 - 0)) := by
            have h3 := hK.out
            rw [laidL, hz.out, ← h3, List.take_of_length_le (by rw [bitsL_length]; omega)]
          rw [← hl2, hc]
          exact HO5.out
        · rw [show ((i + 1 : Nat) : Int) - 1 = (i : Int) by omega]
          have hi8 : i < 8 := by have := HL2.out; omega
          have hl0 : 0 < l2 := by have := HL.out; have := HL2.out; omega
          have hl3 : l2 ≤ 140737488352100 := by have := HL2.out; omega
          have hw1 : IntKind.i64.wrap (8 * (i : Int)) = 8 * (i : Int) := by rw [IntKind.wrap_i64]; omega
          have hw2 : IntKind.u64.wrap (8 * (i : Int)) = 8 * (i : Int) := by rw [IntKind.wrap_u64]; omega
          have h8 : ¬ 8 ≤ i := by omega
          have d8 : ¬ (8 : Int) ≤ (i : Int) := by omega
          go_wp2_with (first
            | (at_builtin; go_must (refine wpList_append_own _ rfl (.tmp 41) (.tmp 48) 22 rfl w.heap.size 5 i0 (.int .u8 0) 1 1 Tryz.underlying22 hi hz0 hz1 hz2 rfl (by decide) _ _ _ rfl (HO5.out.alloc _) ⟨wr.heap.size, 0, none⟩ 1 1 [.int .u8 (((n : Int) * 8) / 2 ^ (8 * i) % 256)] rfl rfl (one_cell _ _ _) (one_one _) (by unfold maxLen; omega) (by omega) (by have := HB5.out.size; rw [size_alloc]; omega) ?_)))
          intro v6 w6 hown6 hgrow6 hnil6
          have HB6 : Hid (Below w.heap.size w w6) := (HB5.out.alloc HB5.out.size _).grown hgrow6 (by have := HB5.out.size; rw [size_alloc]; omega) (fun q hq => (HO5.out.lt q hq).1)
          have ho6 : w6.ownsRow w.heap.size 5 1 v6 (l2 + 1) (cellsU8 (zs ++ ([128] ++ List.replicate k 0) ++ (bitsL 64 n).take (8 - i))) := by
            have e : cellsU8 (zs ++ ([128] ++ List.replicate k 0) ++ (bitsL 64 n).take (8 - i)) = cellsU8 (zs ++ ([128] ++ List.replicate k 0) ++ (bitsL 64 n).take (8 - (i + 1))) ++ [.int .u8 (((n : Int) * 8) / 2 ^ (8 * i) % 256)] := by rw [show 8 - i = 8 - (i + 1) + 1 by omega, List.take_add_one, bitsL_at 64 n (8 - (i + 1)) (by omega), show 64 / 8 - 1 - (8 - (i + 1)) = i by omega, if_neg h8]; simp [cellsU8]
            rw [e]
            simpa [Nat.add_assoc] using hown6
          clear hown6 hgrow6 hnil6
          obtain ⟨g6, c6, rfl⟩ := owns_some ho6 (by omega)
          have HO6 : Hid (w6.ownsRow w.heap.size 5 1 (.slice (some ⟨g6, 0, none⟩) (l2 + 1) c6) (l2 + 1) (cellsU8 (zs ++ ([128] ++ List.replicate k 0) ++ (bitsL 64 n).take (8 - i)))) := ho6
          clear ho6 HO5 HB5
          go_wp2
          go_roundw
          case rel => exact ⟨i, l2 + 1, g6, c6, ⟨by omega, by have := HL2.out; omega⟩, rfl, rfl, HO6, HB6⟩
          case measure => simp [intOf]
set_option maxHeartbeats 1600000 in
set_option maxRecDepth 100000 in
theorem rlaid64_none (cap : Nat) (zs : List Int) (n : Nat) (w : World) (hz : Hid (zs.length = n)) (hn : n ≤ 140737488351232) (h0 : Hid (n = 0 ∧ cap = 0)) :
    Calls Tryz.prog 70 #[.slice none n cap, .int .i64 64] w fun e w' => ∃ v, e = .returned v ∧ w'.ownsRow w.heap.size 5 1 v (laidL 64 zs).length (cellsU8 (laidL 64 zs)) ∧ Below w.heap.size w w' := by
  obtain ⟨i0, hi, hz0, hz1, hz2⟩ := info_parts Tryz.info5
  go_enter Tryz.func70, Tryz.ntmps70
  go_upto_region 3 with (first
    | (at_builtin; go_must (refine wpList_append_own_none rfl (.tmp 8) (.tmp 9) 22 rfl w.heap.size 5 i0 1 Tryz.underlying22 hi _ 0 [] rfl (World.ownsRow_nil _ _ _ _) (by show Value.slice none n cap = _; rw [h0.out.1, h0.out.2]) ?_)))
  have HB : Hid (Below w.heap.size w w) := Below.refl _ _
  have hown1 : w.ownsRow w.heap.size 5 1 (.slice none 0 0) n (cellsU8 zs) := by
    have hz1 := hz.out
    rw [h0.out.1] at hz1 ⊢
    rw [List.eq_nil_of_length_eq_zero hz1]
    exact World.ownsRow_nil _ _ _ _
  go_wp2_with (first
    | (at_builtin; go_must (refine wpList_append_own _ rfl (.tmp 11) (.tmp 12) 22 rfl w.heap.size 5 i0 (.int .u8 0) 1 1 Tryz.underlying22 hi hz0 hz1 hz2 rfl (by decide) _ _ _ rfl (hown1.alloc _) ⟨w.heap.size, 0, none⟩ 1 1 [.int .u8 128] rfl rfl (one_cell _ _ _) (one_one _) (by unfold maxLen; omega) (by omega) (by have := HB.out.size; rw [size_alloc]; omega) ?_)))
  intro v2 w2 hown2 hgrow2 hnil2
  have HB2 : Hid (Below w.heap.size w w2) := (HB.out.alloc HB.out.size _).grown hgrow2 (by have := HB.out.size; rw [size_alloc]; omega) (fun q hq => (hown1.lt q hq).1)
  have ho2 : w2.ownsRow w.heap.size 5 1 v2 (n + 1) (cellsU8 (zs ++ [128])) := by
    have e : cellsU8 (zs ++ [128]) = cellsU8 (zs) ++ [.int .u8 128] := by simp [cellsU8, List.replicate_succ']
    rw [e]
    simpa [Nat.add_assoc] using hown2
  clear hown2 hgrow2 hnil2
  obtain ⟨g2, c2, rfl⟩ := owns_some ho2 (by omega)
  have HO2 : Hid (w2.ownsRow w.heap.size 5 1 (.slice (some ⟨g2, 0, none⟩) (n + 1) c2) (n + 1) (cellsU8 (zs ++ [128]))) := ho2
  have HK : Hid (padK 64 n < 64 ∧ (n + 1 + padK 64 n + 8) % 64 = 0) := by unfold padK; exact ⟨by omega, by omega⟩
  obtain ⟨K, hK⟩ : ∃ K, Hid (K = padK 64 n) := ⟨_, rfl⟩
  rw [← hK.out] at HK
  clear ho2 hown1 HB
  go_wp2
  go_loopw [5] (fun v wr => ∃ k l g c : Nat, Hid (k ≤ K ∧ l = n + 1 + k) ∧ v = .slice (some ⟨g, 0, none⟩) l c ∧ Hid (wr.ownsRow w.heap.size 5 1 (.slice (some ⟨g, 0, none⟩) l c) l (cellsU8 (zs ++ ([128] ++ List.replicate k 0)))) ∧ Hid (Below w.heap.size w wr)) (fun v _ => n + 1 + K - lenOf v)
  case atStart => exact ⟨0, n + 1, g2, c2, ⟨by omega, rfl⟩, rfl, HO2, HB2⟩
  case round =>
    obtain ⟨k, l, g, c, HL, rfl, HO3, HB3⟩ := hrel
    clear HO2 HB2
    have hlw : IntKind.i64.wrap ((l : Int) + 8) = (l : Int) + 8 := by
      have := HL.out; have := HK.out
      rw [IntKind.wrap_i64]
      omega
    by_cases hlt : k < K
    · have d1 : ¬ ((l : Int) + 8) % 64 = 0 := by
        have := HL.out; have := HK.out
        omega
      have hl0 : 0 < l := by have := HL.out; omega
      have hl1 : l ≤ 140737488352000 := by have := HL.out; have := HK.out; omega
      go_wp2_with (first
        | (at_builtin; go_must (refine wpList_append_own _ rfl (.tmp 22) (.tmp 23) 22 rfl w.heap.size 5 i0 (.int .u8 0) 1 1 Tryz.underlying22 hi hz0 hz1 hz2 rfl (by decide) _ _ _ rfl (HO3.out.alloc _) ⟨wr.heap.size, 0, none⟩ 1 1 [.int .u8 0] rfl rfl (one_cell _ _ _) (one_one _) (by unfold maxLen; omega) (by omega) (by have := HB3.out.size; rw [size_alloc]; omega) ?_)))
      intro v4 w4 hown4 hgrow4 hnil4
      have HB4 : Hid (Below w.heap.size w w4) := (HB3.out.alloc HB3.out.size _).grown hgrow4 (by have := HB3.out.size; rw [size_alloc]; omega) (fun q hq => (HO3.out.lt q hq).1)
      have ho4 : w4.ownsRow w.heap.size 5 1 v4 (l + 1) (cellsU8 (zs ++ ([128] ++ List.replicate (k + 1) 0))) := by
        have e : cellsU8 (zs ++ ([128] ++ List.replicate (k + 1) 0)) = cellsU8 (zs ++ ([128] ++ List.replicate k 0)) ++ [.int .u8 0] := by simp [cellsU8, List.replicate_succ']
        rw [e]
        simpa [Nat.add_assoc] using hown4
      clear hown4 hgrow4 hnil4
      obtain ⟨g4, c4, rfl⟩ := owns_some ho4 (by omega)
      have HO4 : Hid (w4.ownsRow w.heap.size 5 1 (.slice (some ⟨g4, 0, none⟩) (l + 1) c4) (l + 1) (cellsU8 (zs ++ ([128] ++ List.replicate (k + 1) 0)))) := ho4
      clear ho4 HO3 HB3
      go_wp2
      go_roundw
      case rel => exact ⟨k + 1, l + 1, g4, c4, ⟨by omega, by have := HL.out; omega⟩, rfl, HO4, HB4⟩
      case measure => have := HL.out; simp [lenOf]; omega
    · have d1 : ((l : Int) + 8) % 64 = 0 := by
        have := HL.out; have := HK.out
        omega
      have hkK : k = K := by have := HL.out; omega
      have hbits : IntKind.u64.wrap ((n : Int) * 8) = (n : Int) * 8 := by
        rw [IntKind.wrap_u64]
        omega
      have hl1 : l ≤ 140737488352000 := by have := HL.out; have := HK.out; omega
      go_wp2
      obtain rfl := hkK
      clear d1 hlt hlw
      go_loopw [5, 7] (fun v vi wr => ∃ m l2 g c : Nat, Hid (m ≤ 8 ∧ l2 = l + (8 - m)) ∧ vi = .int .i64 ((m : Int) - 1) ∧ v = .slice (some ⟨g, 0, none⟩) l2 c ∧ Hid (wr.ownsRow w.heap.size 5 1 (.slice (some ⟨g, 0, none⟩) l2 c) l2 (cellsU8 (zs ++ ([128] ++ List.replicate k 0) ++ (bitsL 64 n).take (8 - m)))) ∧ Hid (Below w.heap.size w wr)) (fun _ vi _ => (intOf vi + 1).toNat)
      case atStart => exact ⟨8, l, g, c, ⟨by omega, by omega⟩, rfl, rfl, (by simpa using HO3.out : World.ownsRow _ _ _ _ _ _ _), HB3⟩
      case round =>
        obtain ⟨m, l2, g5, c5, HL2, rfl, rfl, HO5, HB5⟩ := hrel
        clear HO3 HB3
        rcases m with _ | i
        · rw [show ((0 : Nat) : Int) - 1 = -1 from rfl]
          go_wp2
          go_ret
          refine ⟨_, rfl, ?_, HB5.out⟩
          have hl2 : l2 = (laidL 64 zs).length := by
            rw [laidL_length, hz.out]
            have h1 := HL2.out; have h2 := HL.out; have h3 := hK.out
            unfold padK at h3 ⊢
            omega
          have hc : cellsU8 (laidL 64 zs) = cellsU8 (zs ++ ([128] ++ List.replicate k 0) ++ (bitsL 64 n).take (8 - 0)) := by
            have h3 := hK.out
            rw [laidL, hz.out, ← h3, List.take_of_length_le (by rw [bitsL_length]; omega)]
          rw [← hl2, hc]
          exact HO5.out
        · rw [show ((i + 1 : Nat) : Int) - 1 = (i : Int) by omega]
          have hi8 : i < 8 := by have := HL2.out; omega
          have hl0 : 0 < l2 := by have := HL.out; have := HL2.out; omega
          have hl3 : l2 ≤ 140737488352100 := by have := HL2.out; omega
          have hw1 : IntKind.i64.wrap (8 * (i : Int)) = 8 * (i : Int) := by rw [IntKind.wrap_i64]; omega
          have hw2 : IntKind.u64.wrap (8 * (i : Int)) = 8 * (i : Int) := by rw [IntKind.wrap_u64]; omega
          have h8 : ¬ 8 ≤ i := by omega
          have d8 : ¬ (8 : Int) ≤ (i : Int) := by omega
          go_wp2_with (first
            | (at_builtin; go_must (refine wpList_append_own _ rfl (.tmp 41) (.tmp 48) 22 rfl w.heap.size 5 i0 (.int .u8 0) 1 1 Tryz.underlying22 hi hz0 hz1 hz2 rfl (by decide) _ _ _ rfl (HO5.out.alloc _) ⟨wr.heap.size, 0, none⟩ 1 1 [.int .u8 (((n : Int) * 8) / 2 ^ (8 * i) % 256)] rfl rfl (one_cell _ _ _) (one_one _) (by unfold maxLen; omega) (by omega) (by have := HB5.out.size; rw [size_alloc]; omega) ?_)))
          intro v6 w6 hown6 hgrow6 hnil6
          have HB6 : Hid (Below w.heap.size w w6) := (HB5.out.alloc HB5.out.size _).grown hgrow6 (by have := HB5.out.size; rw [size_alloc]; omega) (fun q hq => (HO5.out.lt q hq).1)
          have ho6 : w6.ownsRow w.heap.size 5 1 v6 (l2 + 1) (cellsU8 (zs ++ ([128] ++ List.replicate k 0) ++ (bitsL 64 n).take (8 - i))) := by
            have e : cellsU8 (zs ++ ([128] ++ List.replicate k 0) ++ (bitsL 64 n).take (8 - i)) = cellsU8 (zs ++ ([128] ++ List.replicate k 0) ++ (bitsL 64 n).take (8 - (i + 1))) ++ [.int .u8 (((n : Int) * 8) / 2 ^ (8 * i) % 256)] := by rw [show 8 - i = 8 - (i + 1) + 1 by omega, List.take_add_one, bitsL_at 64 n (8 - (i + 1)) (by omega), show 64 / 8 - 1 - (8 - (i + 1)) = i by omega, if_neg h8]; simp [cellsU8]
            rw [e]
            simpa [Nat.add_assoc] using hown6
          clear hown6 hgrow6 hnil6
          obtain ⟨g6, c6, rfl⟩ := owns_some ho6 (by omega)
          have HO6 : Hid (w6.ownsRow w.heap.size 5 1 (.slice (some ⟨g6, 0, none⟩) (l2 + 1) c6) (l2 + 1) (cellsU8 (zs ++ ([128] ++ List.replicate k 0) ++ (bitsL 64 n).take (8 - i)))) := ho6
          clear ho6 HO5 HB5
          go_wp2
          go_roundw
          case rel => exact ⟨i, l2 + 1, g6, c6, ⟨by omega, by have := HL2.out; omega⟩, rfl, rfl, HO6, HB6⟩
          case measure => simp [intOf]
set_option maxHeartbeats 1600000 in
set_option maxRecDepth 100000 in
theorem rlaid128_some (x : Addr) (cap : Nat) (zs : List Int) (n : Nat) (w : World) (hz : Hid (zs.length = n)) (hn : n ≤ 140737488351232) (h1 : Hid (∀ j u, (cellsU8 zs)[j]? = some u → w.cell? (x.add j) = some u)) :
    Calls Tryz.prog 70 #[.slice (some x) n cap, .int .i64 128] w fun e w' => ∃ v, e = .returned v ∧ w'.ownsRow w.heap.size 5 1 v (laidL 128 zs).length (cellsU8 (laidL 128 zs)) ∧ Below w.heap.size w w' := by
  obtain ⟨i0, hi, hz0, hz1, hz2⟩ := info_parts Tryz.info5
  go_enter Tryz.func70, Tryz.ntmps70
  go_wp2_with (first
    | (at_builtin; go_must (refine wpList_append_own _ rfl (.tmp 8) (.tmp 9) 22 rfl w.heap.size 5 i0 (.int .u8 0) 1 1 Tryz.underlying22 hi hz0 hz1 hz2 rfl (by decide) _ 0 [] rfl (World.ownsRow_nil _ _ _ _) x n cap (cellsU8 zs) rfl ?_ h1.out (cellsU8_one zs) ?_ ?_ (Nat.le_refl _) ?_)))
  · rw [cellsU8_length, hz.out, Nat.mul_one]
  · unfold maxLen; omega
  · omega
  intro v1 w1 hown hgrow hnil
  have HB : Hid (Below w.heap.size w w1) := (Below.refl _ _).grown hgrow (Nat.le_refl _) (by intro k hk; cases hk)
  have hown1 : w1.ownsRow w.heap.size 5 1 v1 n (cellsU8 zs) := by simpa using hown
  clear hgrow hown hnil
  go_wp2_with (first
    | (at_builtin; go_must (refine wpList_append_own _ rfl (.tmp 11) (.tmp 12) 22 rfl w.heap.size 5 i0 (.int .u8 0) 1 1 Tryz.underlying22 hi hz0 hz1 hz2 rfl (by decide) _ _ _ rfl (hown1.alloc _) ⟨w1.heap.size, 0, none⟩ 1 1 [.int .u8 128] rfl rfl (one_cell _ _ _) (one_one _) (by unfold maxLen; omega) (by omega) (by have := HB.out.size; rw [size_alloc]; omega) ?_)))
  intro v2 w2 hown2 hgrow2 hnil2
  have HB2 : Hid (Below w.heap.size w w2) := (HB.out.alloc HB.out.size _).grown hgrow2 (by have := HB.out.size; rw [size_alloc]; omega) (fun q hq => (hown1.lt q hq).1)
  have ho2 : w2.ownsRow w.heap.size 5 1 v2 (n + 1) (cellsU8 (zs ++ [128])) := by
    have e : cellsU8 (zs ++ [128]) = cellsU8 (zs) ++ [.int .u8 128] := by simp [cellsU8, List.replicate_succ']
    rw [e]
    simpa [Nat.add_assoc] using hown2
  clear hown2 hgrow2 hnil2
  obtain ⟨g2, c2, rfl⟩ := owns_some ho2 (by omega)
  have HO2 : Hid (w2.ownsRow w.heap.size 5 1 (.slice (some ⟨g2, 0, none⟩) (n + 1) c2) (n + 1) (cellsU8 (zs ++ [128]))) := ho2
  have HK : Hid (padK 128 n < 128 ∧ (n + 1 + padK 128 n + 16) % 128 = 0) := by unfold padK; exact ⟨by omega, by omega⟩
  obtain ⟨K, hK⟩ : ∃ K, Hid (K = padK 128 n) := ⟨_, rfl⟩
  rw [← hK.out] at HK
  clear ho2 hown1 HB
  go_wp2
  go_loopw [5] (fun v wr => ∃ k l g c : Nat, Hid (k ≤ K ∧ l = n + 1 + k) ∧ v = .slice (some ⟨g, 0, none⟩) l c ∧ Hid (wr.ownsRow w.heap.size 5 1 (.slice (some ⟨g, 0, none⟩) l c) l (cellsU8 (zs ++ ([128] ++ List.replicate k 0)))) ∧ Hid (Below w.heap.size w wr)) (fun v _ => n + 1 + K - lenOf v)
  case atStart => exact ⟨0, n + 1, g2, c2, ⟨by omega, rfl⟩, rfl, HO2, HB2⟩
  case round =>
    obtain ⟨k, l, g, c, HL, rfl, HO3, HB3⟩ := hrel
    clear HO2 HB2
    have hlw : IntKind.i64.wrap ((l : Int) + 16) = (l : Int) + 16 := by
      have := HL.out; have := HK.out
      rw [IntKind.wrap_i64]
      omega
    by_cases hlt : k < K
    · have d1 : ¬ ((l : Int) + 16) % 128 = 0 := by
        have := HL.out; have := HK.out
        omega
      have hl0 : 0 < l := by have := HL.out; omega
      have hl1 : l ≤ 140737488352000 := by have := HL.out; have := HK.out; omega
      go_wp2_with (first
        | (at_builtin; go_must (refine wpList_append_own _ rfl (.tmp 22) (.tmp 23) 22 rfl w.heap.size 5 i0 (.int .u8 0) 1 1 Tryz.underlying22 hi hz0 hz1 hz2 rfl (by decide) _ _ _ rfl (HO3.out.alloc _) ⟨wr.heap.size, 0, none⟩ 1 1 [.int .u8 0] rfl rfl (one_cell _ _ _) (one_one _) (by unfold maxLen; omega) (by omega) (by have := HB3.out.size; rw [size_alloc]; omega) ?_)))
      intro v4 w4 hown4 hgrow4 hnil4
      have HB4 : Hid (Below w.heap.size w w4) := (HB3.out.alloc HB3.out.size _).grown hgrow4 (by have := HB3.out.size; rw [size_alloc]; omega) (fun q hq => (HO3.out.lt q hq).1)
      have ho4 : w4.ownsRow w.heap.size 5 1 v4 (l + 1) (cellsU8 (zs ++ ([128] ++ List.replicate (k + 1) 0))) := by
        have e : cellsU8 (zs ++ ([128] ++ List.replicate (k + 1) 0)) = cellsU8 (zs ++ ([128] ++ List.replicate k 0)) ++ [.int .u8 0] := by simp [cellsU8, List.replicate_succ']
        rw [e]
        simpa [Nat.add_assoc] using hown4
      clear hown4 hgrow4 hnil4
      obtain ⟨g4, c4, rfl⟩ := owns_some ho4 (by omega)
      have HO4 : Hid (w4.ownsRow w.heap.size 5 1 (.slice (some ⟨g4, 0, none⟩) (l + 1) c4) (l + 1) (cellsU8 (zs ++ ([128] ++ List.replicate (k + 1) 0)))) := ho4
      clear ho4 HO3 HB3
      go_wp2
      go_roundw
      case rel => exact ⟨k + 1, l + 1, g4, c4, ⟨by omega, by have := HL.out; omega⟩, rfl, HO4, HB4⟩
      case measure => have := HL.out; simp [lenOf]; omega
    · have d1 : ((l : Int) + 16) % 128 = 0 := by
        have := HL.out; have := HK.out
        omega
      have hkK : k = K := by have := HL.out; omega
      have hbits : IntKind.u64.wrap ((n : Int) * 8) = (n : Int) * 8 := by
        rw [IntKind.wrap_u64]
        omega
      have hl1 : l ≤ 140737488352000 := by have := HL.out; have := HK.out; omega
      go_wp2
      obtain rfl := hkK
      clear d1 hlt hlw
      go_loopw [5, 7] (fun v vi wr => ∃ m l2 g c : Nat, Hid (m ≤ 16 ∧ l2 = l + (16 - m)) ∧ vi = .int .i64 ((m : Int) - 1) ∧ v = .slice (some ⟨g, 0, none⟩) l2 c ∧ Hid (wr.ownsRow w.heap.size 5 1 (.slice (some ⟨g, 0, none⟩) l2 c) l2 (cellsU8 (zs ++ ([128] ++ List.replicate k 0) ++ (bitsL 128 n).take (16 - m)))) ∧ Hid (Below w.heap.size w wr)) (fun _ vi _ => (intOf vi + 1).toNat)
      case atStart => exact ⟨16, l, g, c, ⟨by omega, by omega⟩, rfl, rfl, (by simpa using HO3.out : World.ownsRow _ _ _ _ _ _ _), HB3⟩
      case round =>
        obtain ⟨m, l2, g5, c5, HL2, rfl, rfl, HO5, HB5⟩ := hrel
        clear HO3 HB3
        rcases m with _ | i
        · rw [show ((0 : Nat) : Int) - 1 = -1 from rfl]
          go_wp2
          go_ret
          refine ⟨_, rfl, ?_, HB5.out⟩
          have hl2 : l2 = (laidL 128 zs).length := by
            rw [laidL_length, hz.out]
            have h1 := HL2.out; have h2 := HL.out; have h3 := hK.out
            unfold padK at h3 ⊢
            omega
          have hc : cellsU8 (laidL 128 zs) = cellsU8 (zs ++ ([128] ++ List.replicate k 0) ++ (bitsL 128 n).take (16 - 0)) := by
            have h3 := hK.out
            rw [laidL, hz.out, ← h3, List.take_of_length_le (by rw [bitsL_length]; omega)]
          rw [← hl2, hc]
          exact HO5.out
        · rw [show ((i + 1 : Nat) : Int) - 1 = (i : Int) by omega]
          have hi8 : i < 16 := by have := HL2.out; omega
          have hl0 : 0 < l2 := by have := HL.out; have := HL2.out; omega
          have hl3 : l2 ≤ 140737488352100 := by have := HL2.out; omega
          have hw1 : IntKind.i64.wrap (8 * (i : Int)) = 8 * (i : Int) := by rw [IntKind.wrap_i64]; omega
          have hw2 : IntKind.u64.wrap (8 * (i : Int)) = 8 * (i : Int) := by rw [IntKind.wrap_u64]; omega
          by_cases h8 : 8 ≤ i
          · have d8 : (8 : Int) ≤ (i : Int) := by omega
            go_wp2_with (first
              | (at_builtin; go_must (refine wpList_append_own _ rfl (.tmp 38) (.tmp 39) 22 rfl w.heap.size 5 i0 (.int .u8 0) 1 1 Tryz.underlying22 hi hz0 hz1 hz2 rfl (by decide) _ _ _ rfl (HO5.out.alloc _) ⟨wr.heap.size, 0, none⟩ 1 1 [.int .u8 0] rfl rfl (one_cell _ _ _) (one_one _) (by unfold maxLen; omega) (by omega) (by have := HB5.out.size; rw [size_alloc]; omega) ?_)))
            intro v6 w6 hown6 hgrow6 hnil6
            have HB6 : Hid (Below w.heap.size w w6) := (HB5.out.alloc HB5.out.size _).grown hgrow6 (by have := HB5.out.size; rw [size_alloc]; omega) (fun q hq => (HO5.out.lt q hq).1)
            have ho6 : w6.ownsRow w.heap.size 5 1 v6 (l2 + 1) (cellsU8 (zs ++ ([128] ++ List.replicate k 0) ++ (bitsL 128 n).take (16 - i))) := by
              have e : cellsU8 (zs ++ ([128] ++ List.replicate k 0) ++ (bitsL 128 n).take (16 - i)) = cellsU8 (zs ++ ([128] ++ List.replicate k 0) ++ (bitsL 128 n).take (16 - (i + 1))) ++ [.int .u8 0] := by rw [show 16 - i = 16 - (i + 1) + 1 by omega, List.take_add_one, bitsL_at 128 n (16 - (i + 1)) (by omega), show 128 / 8 - 1 - (16 - (i + 1)) = i by omega, if_pos h8]; simp [cellsU8]
              rw [e]
              simpa [Nat.add_assoc] using hown6
            clear hown6 hgrow6 hnil6
            obtain ⟨g6, c6, rfl⟩ := owns_some ho6 (by omega)
            have HO6 : Hid (w6.ownsRow w.heap.size 5 1 (.slice (some ⟨g6, 0, none⟩) (l2 + 1) c6) (l2 + 1) (cellsU8 (zs ++ ([128] ++ List.replicate k 0) ++ (bitsL 128 n).take (16 - i)))) := ho6
            clear ho6 HO5 HB5
            go_wp2
            go_roundw
            case rel => exact ⟨i, l2 + 1, g6, c6, ⟨by omega, by have := HL2.out; omega⟩, rfl, rfl, HO6, HB6⟩
            case measure => simp [intOf]
          · have d8 : ¬ (8 : Int) ≤ (i : Int) := by omega
            go_wp2_with (first
              | (at_builtin; go_must (refine wpList_append_own _ rfl (.tmp 41) (.tmp 48) 22 rfl w.heap.size 5 i0 (.int .u8 0) 1 1 Tryz.underlying22 hi hz0 hz1 hz2 rfl (by decide) _ _ _ rfl (HO5.out.alloc _) ⟨wr.heap.size, 0, none⟩ 1 1 [.int .u8 (((n : Int) * 8) / 2 ^ (8 * i) % 256)] rfl rfl (one_cell _ _ _) (one_one _) (by unfold maxLen; omega) (by omega) (by have := HB5.out.size; rw [size_alloc]; omega) ?_)))
            intro v6 w6 hown6 hgrow6 hnil6
            have HB6 : Hid (Below w.heap.size w w6) := (HB5.out.alloc HB5.out.size _).grown hgrow6 (by have := HB5.out.size; rw [size_alloc]; omega) (fun q hq => (HO5.out.lt q hq).1)
            have ho6 : w6.ownsRow w.heap.size 5 1 v6 (l2 + 1) (cellsU8 (zs ++ ([128] ++ List.replicate k 0) ++ (bitsL 128 n).take (16 - i))) := by
              have e : cellsU8 (zs ++ ([128] ++ List.replicate k 0) ++ (bitsL 128 n).take (16 - i)) = cellsU8 (zs ++ ([128] ++ List.replicate k 0) ++ (bitsL 128 n).take (16 - (i + 1))) ++ [.int .u8 (((n : Int) * 8) / 2 ^ (8 * i) % 256)] := by rw [show 16 - i = 16 - (i + 1) + 1 by omega, List.take_add_one, bitsL_at 128 n (16 - (i + 1)) (by omega), show 128 / 8 - 1 - (16 - (i + 1)) = i by omega, if_neg h8]; simp [cellsU8]
              rw [e]
              simpa [Nat.add_assoc] using hown6
            clear hown6 hgrow6 hnil6
            obtain ⟨g6, c6, rfl⟩ := owns_some ho6 (by omega)
            have HO6 : Hid (w6.ownsRow w.heap.size 5 1 (.slice (some ⟨g6, 0, none⟩) (l2 + 1) c6) (l2 + 1) (cellsU8 (zs ++ ([128] ++ List.replicate k 0) ++ (bitsL 128 n).take (16 - i)))) := ho6
            clear ho6 HO5 HB5
            go_wp2
            go_roundw
            case rel => exact ⟨i, l2 + 1, g6, c6, ⟨by omega, by have := HL2.out; omega⟩, rfl, rfl, HO6, HB6⟩
            case measure => simp [intOf]
set_option maxHeartbeats 1600000 in
set_option maxRecDepth 100000 in
theorem rlaid128_none (cap : Nat) (zs : List Int) (n : Nat) (w : World) (hz : Hid (zs.length = n)) (hn : n ≤ 140737488351232) (h0 : Hid (n = 0 ∧ cap = 0)) :
    Calls Tryz.prog 70 #[.slice none n cap, .int .i64 128] w fun e w' => ∃ v, e = .returned v ∧ w'.ownsRow w.heap.size 5 1 v (laidL 128 zs).length (cellsU8 (laidL 128 zs)) ∧ Below w.heap.size w w' := by
  obtain ⟨i0, hi, hz0, hz1, hz2⟩ := info_parts Tryz.info5
  go_enter Tryz.func70, Tryz.ntmps70
  go_upto_region 3 with (first
    | (at_builtin; go_must (refine wpList_append_own_none rfl (.tmp 8) (.tmp 9) 22 rfl w.heap.size 5 i0 1 Tryz.underlying22 hi _ 0 [] rfl (World.ownsRow_nil _ _ _ _) (by show Value.slice none n cap = _; rw [h0.out.1, h0.out.2]) ?_)))
  have HB : Hid (Below w.heap.size w w) := Below.refl _ _
  have hown1 : w.ownsRow w.heap.size 5 1 (.slice none 0 0) n (cellsU8 zs) := by
    have hz1 := hz.out
    rw [h0.out.1] at hz1 ⊢
    rw [List.eq_nil_of_length_eq_zero hz1]
    exact World.ownsRow_nil _ _ _ _
  go_wp2_with (first
    | (at_builtin; go_must (refine wpList_append_own _ rfl (.tmp 11) (.tmp 12) 22 rfl w.heap.size 5 i0 (.int .u8 0) 1 1 Tryz.underlying22 hi hz0 hz1 hz2 rfl (by decide) _ _ _ rfl (hown1.alloc _) ⟨w.heap.size, 0, none⟩ 1 1 [.int .u8 128] rfl rfl (one_cell _ _ _) (one_one _) (by unfold maxLen; omega) (by omega) (by have := HB.out.size; rw [size_alloc]; omega) ?_)))
  intro v2 w2 hown2 hgrow2 hnil2
  have HB2 : Hid (Below w.heap.size w w2) := (HB.out.alloc HB.out.size _).grown hgrow2 (by have := HB.out.size; rw [size_alloc]; omega) (fun q hq => (hown1.lt q hq).1)
  have ho2 : w2.ownsRow w.heap.size 5 1 v2 (n + 1) (cellsU8 (zs ++ [128])) := by
    have e : cellsU8 (zs ++ [128]) = cellsU8 (zs) ++ [.int .u8 128] := by simp [cellsU8, List.replicate_succ']
    rw [e]
    simpa [Nat.add_assoc] using hown2
  clear hown2 hgrow2 hnil2
  obtain ⟨g2, c2, rfl⟩ := owns_some ho2 (by omega)
  have HO2 : Hid (w2.ownsRow w.heap.size 5 1 (.slice (some ⟨g2, 0, none⟩) (n + 1) c2) (n + 1) (cellsU8 (zs ++ [128]))) := ho2
  have HK : Hid (padK 128 n < 128 ∧ (n + 1 + padK 128 n + 16) % 128 = 0) := by unfold padK; exact ⟨by omega, by omega⟩
  obtain ⟨K, hK⟩ : ∃ K, Hid (K = padK 128 n) := ⟨_, rfl⟩
  rw [← hK.out] at HK
  clear ho2 hown1 HB
  go_wp2
  go_loopw [5] (fun v wr => ∃ k l g c : Nat, Hid (k ≤ K ∧ l = n + 1 + k) ∧ v = .slice (some ⟨g, 0, none⟩) l c ∧ Hid (wr.ownsRow w.heap.size 5 1 (.slice (some ⟨g, 0, none⟩) l c) l (cellsU8 (zs ++ ([128] ++ List.replicate k 0)))) ∧ Hid (Below w.heap.size w wr)) (fun v _ => n + 1 + K - lenOf v)
  case atStart => exact ⟨0, n + 1, g2, c2, ⟨by omega, rfl⟩, rfl, HO2, HB2⟩
  case round =>
    obtain ⟨k, l, g, c, HL, rfl, HO3, HB3⟩ := hrel
    clear HO2 HB2
    have hlw : IntKind.i64.wrap ((l : Int) + 16) = (l : Int) + 16 := by
      have := HL.out; have := HK.out
      rw [IntKind.wrap_i64]
      omega
    by_cases hlt : k < K
    · have d1 : ¬ ((l : Int) + 16) % 128 = 0 := by
        have := HL.out; have := HK.out
        omega
      have hl0 : 0 < l := by have := HL.out; omega
      have hl1 : l ≤ 140737488352000 := by have := HL.out; have := HK.out; omega
      go_wp2_with (first
        | (at_builtin; go_must (refine wpList_append_own _ rfl (.tmp 22) (.tmp 23) 22 rfl w.heap.size 5 i0 (.int .u8 0) 1 1 Tryz.underlying22 hi hz0 hz1 hz2 rfl (by decide) _ _ _ rfl (HO3.out.alloc _) ⟨wr.heap.size, 0, none⟩ 1 1 [.int .u8 0] rfl rfl (one_cell _ _ _) (one_one _) (by unfold maxLen; omega) (by omega) (by have := HB3.out.size; rw [size_alloc]; omega) ?_)))
      intro v4 w4 hown4 hgrow4 hnil4
      have HB4 : Hid (Below w.heap.size w w4) := (HB3.out.alloc HB3.out.size _).grown hgrow4 (by have := HB3.out.size; rw [size_alloc]; omega) (fun q hq => (HO3.out.lt q hq).1)
      have ho4 : w4.ownsRow w.heap.size 5 1 v4 (l + 1) (cellsU8 (zs ++ ([128] ++ List.replicate (k + 1) 0))) := by
        have e : cellsU8 (zs ++ ([128] ++ List.replicate (k + 1) 0)) = cellsU8 (zs ++ ([128] ++ List.replicate k 0)) ++ [.int .u8 0] := by simp [cellsU8, List.replicate_succ']
        rw [e]
        simpa [Nat.add_assoc] using hown4
      clear hown4 hgrow4 hnil4
      obtain ⟨g4, c4, rfl⟩ := owns_some ho4 (by omega)
      have HO4 : Hid (w4.ownsRow w.heap.size 5 1 (.slice (some ⟨g4, 0, none⟩) (l + 1) c4) (l + 1) (cellsU8 (zs ++ ([128] ++ List.replicate (k + 1) 0)))) := ho4
      clear ho4 HO3 HB3
      go_wp2
      go_roundw
      case rel => exact ⟨k + 1, l + 1, g4, c4, ⟨by omega, by have := HL.out; omega⟩, rfl, HO4, HB4⟩
      case measure => have := HL.out; simp [lenOf]; omega
    · have d1 : ((l : Int) + 16) % 128 = 0 := by
        have := HL.out; have := HK.out
        omega
      have hkK : k = K := by have := HL.out; omega
      have hbits : IntKind.u64.wrap ((n : Int) * 8) = (n : Int) * 8 := by
        rw [IntKind.wrap_u64]
        omega
      have hl1 : l ≤ 140737488352000 := by have := HL.out; have := HK.out; omega
      go_wp2
      obtain rfl := hkK
      clear d1 hlt hlw
      go_loopw [5, 7] (fun v vi wr => ∃ m l2 g c : Nat, Hid (m ≤ 16 ∧ l2 = l + (16 - m)) ∧ vi = .int .i64 ((m : Int) - 1) ∧ v = .slice (some ⟨g, 0, none⟩) l2 c ∧ Hid (wr.ownsRow w.heap.size 5 1 (.slice (some ⟨g, 0, none⟩) l2 c) l2 (cellsU8 (zs ++ ([128] ++ List.replicate k 0) ++ (bitsL 128 n).take (16 - m)))) ∧ Hid (Below w.heap.size w wr)) (fun _ vi _ => (intOf vi + 1).toNat)
      case atStart => exact ⟨16, l, g, c, ⟨by omega, by omega⟩, rfl, rfl, (by simpa using HO3.out : World.ownsRow _ _ _ _ _ _ _), HB3⟩
      case round =>
        obtain ⟨m, l2, g5, c5, HL2, rfl, rfl, HO5, HB5⟩ := hrel
        clear HO3 HB3
        rcases m with _ | i
        · rw [show ((0 : Nat) : Int) - 1 = -1 from rfl]
          go_wp2
          go_ret
          refine ⟨_, rfl, ?_, HB5.out⟩
          have hl2 : l2 = (laidL 128 zs).length := by
            rw [laidL_length, hz.out]
            have h1 := HL2.out; have h2 := HL.out; have h3 := hK.out
            unfold padK at h3 ⊢
            omega
          have hc : cellsU8 (laidL 128 zs) = cellsU8 (zs ++ ([128] ++ List.replicate k 0) ++ (bitsL 128 n).take (16 - 0)) := by
            have h3 := hK.out
            rw [laidL, hz.out, ← h3, List.take_of_length_le (by rw [bitsL_length]; omega)]
          rw [← hl2, hc]
          exact HO5.out
        · rw [show ((i + 1 : Nat) : Int) - 1 = (i : Int) by omega]
          have hi8 : i < 16 := by have := HL2.out; omega
          have hl0 : 0 < l2 := by have := HL.out; have := HL2.out; omega
          have hl3 : l2 ≤ 140737488352100 := by have := HL2.out; omega
          have hw1 : IntKind.i64.wrap (8 * (i : Int)) = 8 * (i : Int) := by rw [IntKind.wrap_i64]; omega
          have hw2 : IntKind.u64.wrap (8 * (i : Int)) = 8 * (i : Int) := by rw [IntKind.wrap_u64]; omega
          by_cases h8 : 8 ≤ i
          · have d8 : (8 : Int) ≤ (i : Int) := by omega
            go_wp2_with (first
              | (at_builtin; go_must (refine wpList_append_own _ rfl (.tmp 38) (.tmp 39) 22 rfl w.heap.size 5 i0 (.int .u8 0) 1 1 Tryz.underlying22 hi hz0 hz1 hz2 rfl (by decide) _ _ _ rfl (HO5.out.alloc _) ⟨wr.heap.size, 0, none⟩ 1 1 [.int .u8 0] rfl rfl (one_cell _ _ _) (one_one _) (by unfold maxLen; omega) (by omega) (by have := HB5.out.size; rw [size_alloc]; omega) ?_)))
            intro v6 w6 hown6 hgrow6 hnil6
            have HB6 : Hid (Below w.heap.size w w6) := (HB5.out.alloc HB5.out.size _).grown hgrow6 (by have := HB5.out.size; rw [size_alloc]; omega) (fun q hq => (HO5.out.lt q hq).1)
            have ho6 : w6.ownsRow w.heap.size 5 1 v6 (l2 + 1) (cellsU8 (zs ++ ([128] ++ List.replicate k 0) ++ (bitsL 128 n).take (16 - i))) := by
              have e : cellsU8 (zs ++ ([128] ++ List.replicate k 0) ++ (bitsL 128 n).take (16 - i)) = cellsU8 (zs ++ ([128] ++ List.replicate k 0) ++ (bitsL 128 n).take (16 - (i + 1))) ++ [.int .u8 0] := by rw [show 16 - i = 16 - (i + 1) + 1 by omega, List.take_add_one, bitsL_at 128 n (16 - (i + 1)) (by omega), show 128 / 8 - 1 - (16 - (i + 1)) = i by omega, if_pos h8]; simp [cellsU8]
              rw [e]
              simpa [Nat.add_assoc] using hown6
            clear hown6 hgrow6 hnil6
            obtain ⟨g6, c6, rfl⟩ := owns_some ho6 (by omega)
            have HO6 : Hid (w6.ownsRow w.heap.size 5 1 (.slice (some ⟨g6, 0, none⟩) (l2 + 1) c6) (l2 + 1) (cellsU8 (zs ++ ([128] ++ List.replicate k 0) ++ (bitsL 128 n).take (16 - i)))) := ho6
            clear ho6 HO5 HB5
            go_wp2
            go_roundw
            case rel => exact ⟨i, l2 + 1, g6, c6, ⟨by omega, by have := HL2.out; omega⟩, rfl, rfl, HO6, HB6⟩
            case measure => simp [intOf]
          · have d8 : ¬ (8 : Int) ≤ (i : Int) := by omega
            go_wp2_with (first
              | (at_builtin; go_must (refine wpList_append_own _ rfl (.tmp 41) (.tmp 48) 22 rfl w.heap.size 5 i0 (.int .u8 0) 1 1 Tryz.underlying22 hi hz0 hz1 hz2 rfl (by decide) _ _ _ rfl (HO5.out.alloc _) ⟨wr.heap.size, 0, none⟩ 1 1 [.int .u8 (((n : Int) * 8) / 2 ^ (8 * i) % 256)] rfl rfl (one_cell _ _ _) (one_one _) (by unfold maxLen; omega) (by omega) (by have := HB5.out.size; rw [size_alloc]; omega) ?_)))
            intro v6 w6 hown6 hgrow6 hnil6
            have HB6 : Hid (Below w.heap.size w w6) := (HB5.out.alloc HB5.out.size _).grown hgrow6 (by have := HB5.out.size; rw [size_alloc]; omega) (fun q hq => (HO5.out.lt q hq).1)
            have ho6 : w6.ownsRow w.heap.size 5 1 v6 (l2 + 1) (cellsU8 (zs ++ ([128] ++ List.replicate k 0) ++ (bitsL 128 n).take (16 - i))) := by
              have e : cellsU8 (zs ++ ([128] ++ List.replicate k 0) ++ (bitsL 128 n).take (16 - i)) = cellsU8 (zs ++ ([128] ++ List.replicate k 0) ++ (bitsL 128 n).take (16 - (i + 1))) ++ [.int .u8 (((n : Int) * 8) / 2 ^ (8 * i) % 256)] := by rw [show 16 - i = 16 - (i + 1) + 1 by omega, List.take_add_one, bitsL_at 128 n (16 - (i + 1)) (by omega), show 128 / 8 - 1 - (16 - (i + 1)) = i by omega, if_neg h8]; simp [cellsU8]
              rw [e]
              simpa [Nat.add_assoc] using hown6
            clear hown6 hgrow6 hnil6
            obtain ⟨g6, c6, rfl⟩ := owns_some ho6 (by omega)
            have HO6 : Hid (w6.ownsRow w.heap.size 5 1 (.slice (some ⟨g6, 0, none⟩) (l2 + 1) c6) (l2 + 1) (cellsU8 (zs ++ ([128] ++ List.replicate k 0) ++ (bitsL 128 n).take (16 - i)))) := ho6
            clear ho6 HO5 HB5
            go_wp2
            go_roundw
            case rel => exact ⟨i, l2 + 1, g6, c6, ⟨by omega, by have := HL2.out; omega⟩, rfl, rfl, HO6, HB6⟩
            case measure => simp [intOf]
/-- laid. -/
theorem rlaid_any (wd : Bool) (v : Value) (zs : List Int) (w : World) (hv : View w v zs) (hn : zs.length ≤ 140737488351232) :
    Calls Tryz.prog 70 #[v, .int .i64 (bsz wd)] w fun e w' => ∃ v', e = .returned v' ∧ w'.ownsRow w.heap.size 5 1 v' (laidL (bsz wd) zs).length (cellsU8 (laidL (bsz wd) zs)) ∧ Below w.heap.size w w' := by
  obtain ⟨a, cap, rfl, h1, h2, h3, h4⟩ := hv
  rcases a with _ | x
  · obtain rfl := h3 rfl
    have hz : zs = [] := by
      rcases h4 with h | ⟨b, p, h, _⟩
      · exact h
      · cases h
    cases wd
    · exact rlaid64_none 0 zs zs.length w rfl hn ⟨by rw [hz]; rfl, rfl⟩
    · exact rlaid128_none 0 zs zs.length w rfl hn ⟨by rw [hz]; rfl, rfl⟩
  · have hc : ∀ j u, (cellsU8 zs)[j]? = some u → w.cell? (x.add j) = some u := by
      rcases h4 with rfl | ⟨b, p, h, hc⟩
      · intro j u hu
        simp [cellsU8] at hu
      · injection h with h
        subst h
        exact cellsU8_at zs w b p hc
    cases wd
    · exact rlaid64_some x cap zs zs.length w rfl hn hc
    · exact rlaid128_some x cap zs zs.length w rfl hn hc
end Go.Proofs.YtehlppaidgkpaaaGreatDoor.Dg
namespace Go.Proofs.YtehlppaidgkpaaaGreatDoor.Dg
open Go.RowKit
set_option linter.unusedVariables false
theorem fnz_laid (bs : Nat) (zs : List Int) (P : Nat) : fnz (laidL bs zs) P = if P < zs.length then fnz zs P else if P = zs.length then 128 else if P < zs.length + 1 + padK bs zs.length then 0 else fnz (bitsL bs zs.length) (P - (zs.length + 1 + padK bs zs.length)) := by
  unfold laidL
  by_cases h1 : P < zs.length
  · rw [if_pos h1, List.append_assoc, fnz_left _ _ _ h1]
  · rw [if_neg h1]
    have e : (zs ++ ([128] ++ List.replicate (padK bs zs.length) 0)).length = zs.length + 1 + padK bs zs.length := by simp; omega
    by_cases h2 : P = zs.length
    · rw [if_pos h2, h2, List.append_assoc]
      have := fnz_right zs ([128] ++ List.replicate (padK bs zs.length) (0 : Int) ++ bitsL bs zs.length) 0
      rw [Nat.add_zero] at this
      rw [this]
      rfl
    · rw [if_neg h2]
      by_cases h3 : P < zs.length + 1 + padK bs zs.length
      · rw [if_pos h3, fnz_left _ _ _ (by rw [e]; exact h3)]
        have := fnz_right zs ([128] ++ List.replicate (padK bs zs.length) (0 : Int)) (P - zs.length)
        rw [show zs.length + (P - zs.length) = P by omega] at this
        rw [this]
        have h4 := fnz_right [128] (List.replicate (padK bs zs.length) (0 : Int)) (P - zs.length - 1)
        rw [show [(128 : Int)].length + (P - zs.length - 1) = P - zs.length by simp; omega] at h4
        rw [h4]
        simp only [fnz, List.getD, List.getElem?_replicate]
        split <;> rfl
      · rw [if_neg h3]
        have := fnz_right (zs ++ ([128] ++ List.replicate (padK bs zs.length) (0 : Int))) (bitsL bs zs.length) (P - (zs.length + 1 + padK bs zs.length))
        rw [e, show zs.length + 1 + padK bs zs.length + (P - (zs.length + 1 + padK bs zs.length)) = P by omega] at this
        exact this
theorem fnz_bits (bs n j : Nat) (hj : j < bs / 8) : fnz (bitsL bs n) j = if 8 ≤ bs / 8 - 1 - j then 0 else ((n : Int) * 8) / 2 ^ (8 * (bs / 8 - 1 - j)) % 256 := by
  rw [fnz, List.getD_eq_getElem?_getD, bitsL_at bs n j hj]
  rfl
theorem laid_blocks (wd : Bool) (zs : List Int) : (laidL (bsz wd) zs).length = bsz wd * (zs.length / bsz wd + padN (bsz wd) zs.length) := by
  rw [laidL_length]
  cases wd
  · simp only [bsz, Bool.false_eq_true, if_false]
    unfold padK padN
    split <;> omega
  · simp only [bsz, if_true]
    unfold padK padN
    split <;> omega
theorem laid_pad (wd : Bool) (zs : List Int) (k : Nat) (hk : k < bsz wd * padN (bsz wd) zs.length) : fnz (laidL (bsz wd) zs) (bsz wd * (zs.length / bsz wd) + k) = padF (bsz wd) (fun i => fnz zs (bsz wd * (zs.length / bsz wd) + i)) zs.length k := by
  have hb := laid_blocks wd zs
  rw [laidL_length] at hb
  rw [fnz_laid]
  unfold padF
  have hd : bsz wd * (zs.length / bsz wd) + zs.length % bsz wd = zs.length := Nat.div_add_mod _ _
  by_cases h1 : k < zs.length % bsz wd
  · rw [if_pos (by omega), if_pos h1]
  · rw [if_neg (by omega), if_neg h1]
    by_cases h2 : k = zs.length % bsz wd
    · rw [if_pos (by omega), if_pos h2]
    · rw [if_neg (by omega), if_neg h2]
      rw [Nat.mul_add] at hb
      rw [Nat.mul_comm (padN _ _)]
      by_cases h3 : bsz wd * (zs.length / bsz wd) + k < zs.length + 1 + padK (bsz wd) zs.length
      · rw [if_pos h3, if_pos (by cases wd <;> simp only [bsz, Bool.false_eq_true, if_false, if_true] at * <;> omega)]
      · rw [if_neg h3, fnz_bits _ _ _ (by omega)]
        have e : bsz wd / 8 - 1 - (bsz wd * (zs.length / bsz wd) + k - (zs.length + 1 + padK (bsz wd) zs.length)) = bsz wd * padN (bsz wd) zs.length - 1 - k := by omega
        rw [e]
        by_cases h4 : k + 8 < bsz wd * padN (bsz wd) zs.length
        · rw [if_pos (by omega), if_pos h4]
        · rw [if_neg (by omega), if_neg h4]
/-- What is laid down whole and taken block by block ends in the same words. -/
theorem endW_laid (wd : Bool) (s0 : Eight) (zs : List Int) : TT wd (fnz (laidL (bsz wd) zs)) s0 ((laidL (bsz wd) zs).length / bsz wd) = endW wd s0 0 zs := by
  have hb := bsz_pos wd
  rw [laid_blocks, Nat.mul_div_cancel_left _ hb, TT_add]
  unfold endW
  rw [Nat.zero_add]
  have h1 : TT wd (fnz (laidL (bsz wd) zs)) s0 (zs.length / bsz wd) = TT wd (fnz zs) s0 (zs.length / bsz wd) := TT_congr wd s0 _ fun j hj => by
    have := Nat.mul_div_le zs.length (bsz wd)
    rw [fnz_laid, if_pos (by omega)]
  rw [h1]
  exact TT_congr wd _ _ fun k hk => laid_pad wd zs k hk
theorem padN_pos (bs n : Nat) : 1 ≤ padN bs n := by unfold padN; split <;> omega
end Go.Proofs.YtehlppaidgkpaaaGreatDoor.Dg
namespace Go.Proofs.YtehlppaidgkpaaaGreatDoor.Dg
open Go.RowKit
set_option linter.unusedVariables false
set_option linter.unusedSimpArgs false
theorem Mem.laterN {w wr wn : World} {L : List (List Value)} (h : Mem w wr L) (hb : Below (w.heap.size + L.length) wr wn) : Mem w wn L := by
  refine ⟨h.below.trans (hb.mono (by omega)), Nat.le_trans h.size hb.size, fun i cs hi => ?_⟩
  have hl : i < L.length := (List.getElem?_eq_some_iff.1 hi).1
  obtain ⟨h1, h2⟩ := h.holds i cs hi
  refine ⟨fun j v hv => ?_, fun j hj => ?_⟩
  · rw [hb.cell (p := ⟨w.heap.size + i, 0 + j, none⟩) (by show w.heap.size + i < _; omega)]
    exact h1 j v hv
  · rw [hb.cell (p := ⟨w.heap.size + i, 0 + j, none⟩) (by show w.heap.size + i < _; omega), hb.frozen (p := ⟨w.heap.size + i, 0 + j, none⟩) (by show w.heap.size + i < _; omega)]
    exact h2 j hj
theorem owns_slice {w : World} {B n : Nat} {v : Value} {cs : List Value} (h : w.ownsRow B 5 1 v n cs) : ∃ a c, v = .slice a n c := by
  rcases h.2 with ⟨rfl, e⟩ | ⟨g, c, cur, rfl, _⟩
  · exact ⟨none, 0, by rw [e]⟩
  · exact ⟨some ⟨g, 0, none⟩, c, rfl⟩
theorem owns_base {w : World} {B B' n : Nat} {v : Value} {cs : List Value} (h : w.ownsRow B 5 1 v n cs) (hB : B' ≤ B) : w.ownsRow B' 5 1 v n cs := by
  obtain ⟨h1, h2⟩ := h
  refine ⟨h1, ?_⟩
  rcases h2 with h2 | ⟨g, c, cur, e, q1, q⟩
  · exact .inl h2
  · exact .inr ⟨g, c, cur, e, Nat.le_trans hB q1, q⟩
theorem spellL_at (wd : Bool) (s : Eight) (l : Nat) (hl : l < 64) : (spellL wd s)[l]? = some (spellAt (wsz wd) s l) := by simp [spellL, hl]
theorem pow256 (j : Nat) : (2 : Int) ^ (8 * j) = 256 ^ j := by rw [Int.pow_mul]; rfl
theorem spell4 (s : Eight) (i j l : Nat) (hl : l = 4 * i + (4 - (j + 1))) (hj : j < 4) (hi : i < 8) : spellAt (wsz false) s l = fnz s.list i / 2 ^ (8 * j) % 256 := by
  show spellAt 4 s l = _
  unfold spellAt
  rw [if_pos (by omega), show l / 4 = i by omega, show 4 - 1 - l % 4 = j by omega, pow256]
set_option maxHeartbeats 3200000 in
set_option maxRecDepth 100000 in
theorem rsum64 (h : Int) (k : Known h) (hwd : wdOf h = false) (m : Nat) (hm : Hid (szOf h = 4 * m ∧ m ≤ 8)) (v : Value) (zs : List Int) (w : World) (hT : RTab w) (hv : View w v zs) (hn : zs.length ≤ 140737488351232) :
    Calls Tryz.prog 49 #[.int .i64 h, v] w fun e w' => ∃ v', e = .returned v' ∧ w'.ownsRow w.heap.size 5 1 v' (szOf h) (cellsU8 (sumD h zs)) ∧ Below w.heap.size w w' := by
  have HT : Hid (RTab w) := hT
  have HV : Hid (View w v zs) := hv
  have hn2 : Hid (zs.length ≤ 140737488351232) := hn
  have hb48 : Hid (∀ u, Calls Tryz.prog 68 #[.int .i64 h] u fun e w' => e = .returned (.int .i64 64) ∧ w' = u) := fun u => by
    have := rblock_ok h k u
    rw [hwd] at this
    exact this
  obtain ⟨i0, hi, hz0, hz1, hz2⟩ := info_parts Tryz.info5
  clear hT hv hn
  go_enter Tryz.func49, Tryz.ntmps49
  go_wp2_with (go_at_call 68; refine (hb48.out _).mono ?_; rintro e1 wx ⟨rfl, hwx⟩; obtain rfl := hwx.symm)
  go_upto_region 5 with (go_at_call 69; refine (rfirst_any k w HT).mono ?_)
  rintro e w1 ⟨rfl, hb1⟩
  obtain ⟨E0, HE0⟩ : ∃ E0 : Eight, Hid (E0 = firstE h) := ⟨_, rfl⟩
  rw [← HE0.out]
  have HN1 : Hid (w.heap.size ≤ w1.heap.size) := hb1.size
  have HMa : Hid (Mem w1 (w1.alloc (.cells #[.int .u64 0, .int .u64 0, .int .u64 0, .int .u64 0, .int .u64 0, .int .u64 0, .int .u64 0, .int .u64 0] 137)) [[.int .u64 0, .int .u64 0, .int .u64 0, .int .u64 0, .int .u64 0, .int .u64 0, .int .u64 0, .int .u64 0]]) := (Mem.nil w1).alloc rfl _ _
  have HBa : Hid (Below w.heap.size w (w1.alloc (.cells #[.int .u64 0, .int .u64 0, .int .u64 0, .int .u64 0, .int .u64 0, .int .u64 0, .int .u64 0, .int .u64 0] 137))) := hb1.alloc hb1.size _
  have HYa : Hid ((w1.alloc (.cells #[.int .u64 0, .int .u64 0, .int .u64 0, .int .u64 0, .int .u64 0, .int .u64 0, .int .u64 0, .int .u64 0] 137)).there w1.heap.size 0 E0.cells.toArray.size) := (HMa.out.holds 0 _ rfl).2
  clear hb1
  go_upto_region 5 with (refine wpList_store_mid (by rfl) 137 (.tmp 6) (.tmp 18) (by rfl) w1.heap.size 0 E0.cells.toArray (by rfl) (by rfl) HYa.out size70 (cellsE_one E0) ?_)
  have HM2 : Hid (Mem w1 ((w1.alloc (.cells #[.int .u64 0, .int .u64 0, .int .u64 0, .int .u64 0, .int .u64 0, .int .u64 0, .int .u64 0, .int .u64 0] 137)).setCells w1.heap.size 0 E0.cells) [E0.cells]) := (HMa.out.store 0 rfl E0.cells rfl).congr rfl
  have HB2 : Hid (Below w.heap.size w ((w1.alloc (.cells #[.int .u64 0, .int .u64 0, .int .u64 0, .int .u64 0, .int .u64 0, .int .u64 0, .int .u64 0, .int .u64 0] 137)).setCells w1.heap.size 0 E0.cells)) := below_setCells _ HN1.out _ _ _ HBa.out
  clear HMa HBa HYa
  generalize (w1.alloc (.cells #[.int .u64 0, .int .u64 0, .int .u64 0, .int .u64 0, .int .u64 0, .int .u64 0, .int .u64 0, .int .u64 0] 137)).setCells w1.heap.size 0 E0.cells = w2 at HM2 HB2 ⊢
  have H50 : Hid (Calls Tryz.prog 70 #[v, .int .i64 64] w2 fun e w' => ∃ v', e = .returned v' ∧ w'.ownsRow w2.heap.size 5 1 v' (laidL (bsz false) zs).length (cellsU8 (laidL (bsz false) zs)) ∧ Below w2.heap.size w2 w') := rlaid_any false v zs w2 (HV.out.kept fun b hb => HB2.out.block b hb) hn2.out
  go_upto_region 6 with (go_at_call 70; refine H50.out.mono ?_)
  clear H50
  rintro e w3 ⟨v3, rfl, ho3, hb3⟩
  obtain ⟨Z, HZ⟩ : ∃ Z, Hid (Z = laidL (bsz false) zs) := ⟨_, rfl⟩
  rw [← HZ.out] at ho3
  obtain ⟨L, HLZ⟩ : ∃ L, Hid (L = Z.length) := ⟨_, rfl⟩
  rw [← HLZ.out] at ho3
  have HL1 : Hid (64 ≤ L ∧ L = 64 * (L / 64)) := by
    have h1 := laid_blocks false zs
    have h2 := padN_pos (bsz false) zs.length
    rw [← HZ.out, ← HLZ.out] at h1
    have h3 : L = 64 * (zs.length / bsz false + padN (bsz false) zs.length) := h1
    generalize zs.length / bsz false = x1 at h3
    generalize padN (bsz false) zs.length = x2 at h2 h3
    show 64 ≤ L ∧ L = 64 * (L / 64)
    omega
  obtain ⟨g, c, rfl⟩ := owns_some ho3 (by have := HL1.out; omega)
  have HGN : Hid (g ≠ w1.heap.size) := by
    have h1 := (ho3.lt g rfl).1
    have h2 := HM2.out.size
    simp at h2
    show g ≠ w1.heap.size
    omega
  have HL : Hid (L = 64 * (L / 64) ∧ L ≤ c ∧ c ≤ 9223372036854775807 ∧ g < w3.heap.size ∧ ∀ i, i < L → w3.cell? ⟨g, 0 + i, none⟩ = some (.int .u8 (fnz Z i))) := by
    have h1 := viewOwns ho3 HLZ.out.symm
    obtain ⟨a', cap', e1, q1, q2, q3, q4⟩ := h1
    injection e1 with e1 e2 e3
    subst e3
    refine ⟨HL1.out.2, by rw [← HLZ.out] at q1; exact q1, by unfold maxLen at q2; omega, (ho3.lt g rfl).2, fun i hi => ?_⟩
    rcases q4 with q4 | ⟨b', p', e4, q5⟩
    · rw [HLZ.out, q4] at hi
      simp at hi
    · rw [← e1] at e4
      injection e4 with e4
      injection e4 with e5 e6
      subst e5 e6
      exact q5 i (by rw [← HLZ.out]; exact hi)
  have HM3 : Hid (Mem w1 w3 [E0.cells]) := HM2.out.later hb3
  have HB3 : Hid (Below w.heap.size w w3) := HB2.out.trans (hb3.mono HB2.out.size)
  have HT3 : Hid (RTab w3) := HT.out.below HB3.out HT.out.size
  clear HM2 HB2 ho3 hb3 HV
  have hTw := HT3.out
  go_upto_region 13 with (first
    | (refine wpList_load_mid (by rfl) 137 (.tmp 6) (by rfl) w1.heap.size 0 (by rfl) E0.cells _ ((HM3.out.holds 0 _ rfl).1) Tryz.underlying137 rfl size70 ?_)
    | (go_at_call 71; refine (rnarrow_walk E0.a E0.b E0.c E0.d E0.e E0.f E0.g E0.k (fnz Z) g 0 L (L / 64) c w3 hTw HL.out.1 HL.out.2.1 HL.out.2.2.1 HL.out.2.2.2.1 HL.out.2.2.2.2).mono ?_)
    | fail)
  rintro e w4 ⟨rfl, hb4⟩
  obtain ⟨E1, HE1⟩ : ∃ E1 : Eight, Hid (E1 = (takes32 cubeAt (fnz Z) ⟨E0.a, E0.b, E0.c, E0.d, E0.e, E0.f, E0.g, E0.k⟩ (L / 64)).low) := ⟨_, rfl⟩
  rw [← HE1.out]
  have HM4 : Hid (Mem w1 w4 [E0.cells]) := HM3.out.later hb4
  have HB4 : Hid (Below w.heap.size w w4) := HB3.out.trans (hb4.mono HB3.out.size)
  have HM5 : Hid (Mem w1 (w4.setCells w1.heap.size 0 E1.cells) [E1.cells]) := (HM4.out.store 0 rfl E1.cells rfl).congr rfl
  have HB5 : Hid (Below w.heap.size w (w4.setCells w1.heap.size 0 E1.cells)) := below_setCells _ HN1.out _ _ _ HB4.out
  have HY : Hid (w4.there w1.heap.size 0 E1.cells.toArray.size) := (HM4.out.holds 0 _ rfl).2
  have HEE : Hid (E1 = endW (wdOf h) (firstE h) 0 zs) := by
    rw [HE1.out, hwd, ← endW_laid false, ← HE0.out, ← HZ.out]
    have hL : L = Z.length := HLZ.out
    have h1 : 1 ≤ L / 64 := by have := HL1.out; omega
    obtain ⟨t, ht⟩ : ∃ t, L / 64 = t + 1 := ⟨L / 64 - 1, by omega⟩
    have e : takes32 cubeAt (fnz Z) ⟨E0.a, E0.b, E0.c, E0.d, E0.e, E0.f, E0.g, E0.k⟩ (L / 64) = TT false (fnz Z) E0 (Z.length / bsz false) := by rw [← hL]; rfl
    rw [← e, ht]
    exact low_low _ _ _
  clear HM3 HB3 HE1 HM4 HB4 hb4 hTw
  go_upto_region 13 with (refine wpList_store_mid (by rfl) 137 (.tmp 6) (.tmp 28) (by rfl) w1.heap.size 0 E1.cells.toArray (by rfl) (by rfl) HY.out size70 (cellsE_one E1) ?_)
  clear HY
  change Code.wp _ _ _ _ (w4.setCells w1.heap.size 0 E1.cells) at *
  generalize w4.setCells w1.heap.size 0 E1.cells = w5 at HM5 HB5 ⊢
  go_wp2
  go_loopw [10, 11] (fun v vi wr => ∃ i l c : Nat, ∃ a : Option Addr, Hid (i ≤ m ∧ l = 4 * i) ∧ vi = .int .i64 i ∧ v = .slice a l c ∧ Hid (wr.ownsRow (w1.heap.size + 1) 5 1 (.slice a l c) l (cellsU8 ((spellL false E1).take l))) ∧ Hid (Mem w1 wr [E1.cells]) ∧ Hid (Below w.heap.size w wr)) (fun _ vi _ => m - (intOf vi).toNat)
  case atStart => exact ⟨0, 0, 0, none, ⟨Nat.zero_le _, rfl⟩, rfl, rfl, World.ownsRow_nil _ _ _ _, HM5, HB5⟩
  case round =>
    obtain ⟨i, l, c0, a, HI, rfl, rfl, HO6, HM6, HB6⟩ := hrel
    clear HM5 HB5
    by_cases him : i < m
    · have hi8 : i < 8 := by have := hm.out; omega
      have hls : l < szOf h := by have := HI.out; have := hm.out; omega
      have hls' : (l : Int) < (szOf h : Nat) := by omega
      go_wp2_with (go_at_call 73; refine (rsize_ok h k _).mono ?_; rintro e1 wx ⟨rfl, hwx⟩; obtain rfl := hwx.symm)
      go_loopw [10, 12] (fun v vj wr => ∃ q l c : Nat, ∃ a : Option Addr, Hid (q ≤ 4 ∧ l = 4 * i + (4 - q)) ∧ vj = .int .i64 ((q : Int) - 1) ∧ v = .slice a l c ∧ Hid (wr.ownsRow (w1.heap.size + 1) 5 1 (.slice a l c) l (cellsU8 ((spellL false E1).take l))) ∧ Hid (Mem w1 wr [E1.cells]) ∧ Hid (Below w.heap.size w wr)) (fun _ vj _ => (intOf vj + 1).toNat)
      case atStart => exact ⟨4, l, c0, a, ⟨by omega, by have := HI.out; omega⟩, rfl, rfl, HO6, HM6, HB6⟩
      case round =>
        obtain ⟨q, l2, c2, a2, HL2, rfl, rfl, HO7, HM7, HB7⟩ := hrel
        clear HO6 HM6 HB6
        rcases q with _ | j
        · rw [show ((0 : Nat) : Int) - 1 = -1 from rfl]
          go_wp2
          go_roundw
          case rel => exact ⟨i + 1, l2, c2, a2, ⟨by omega, by have := HL2.out; omega⟩, by go_num, rfl, HO7, HM7, HB7⟩
          case measure => simp [intOf]; omega
        · rw [show ((j + 1 : Nat) : Int) - 1 = (j : Int) by omega]
          have hj : j < 4 := by have := HL2.out; omega
          have hls2 : l2 < szOf h := by have := HL2.out; have := hm.out; omega
          have hls3 : (l2 : Int) < (szOf h : Nat) := by omega
          have hl64 : l2 < 64 := by have := HL2.out; omega
          have hj0 : (0 : Int) ≤ (j : Int) := by omega
          have hw1 : IntKind.i64.wrap (8 * (j : Int)) = 8 * (j : Int) := by rw [IntKind.wrap_i64]; omega
          have hw2 : IntKind.u64.wrap (8 * (j : Int)) = 8 * (j : Int) := by rw [IntKind.wrap_u64]; omega
          have f0 : wr.cell? ⟨w1.heap.size, i, none⟩ = some (.int .u64 (fnz E1.list i)) := HM7.out.cell 0 rfl i _ (by rw [cells_Cl]; exact Cl_at _ _ i hi8)
          have hbase : w1.heap.size + 1 ≤ wr.heap.size := HM7.out.size
          go_wp2_with (first
            | (go_at_call 73; refine (rsize_ok h k _).mono ?_; rintro e1 wx ⟨rfl, hwx⟩; obtain rfl := hwx.symm)
            | (at_builtin; go_must (refine wpList_append_own _ rfl (.tmp 62) (.tmp 71) 22 rfl (w1.heap.size + 1) 5 i0 (.int .u8 0) 1 1 Tryz.underlying22 hi hz0 hz1 hz2 rfl (by decide) _ _ _ rfl (HO7.out.alloc _) ⟨wr.heap.size, 0, none⟩ 1 1 [.int .u8 (fnz E1.list i / 2 ^ (8 * j) % 256)] rfl rfl (one_cell _ _ _) (one_one _) (by unfold maxLen; omega) (by omega) (by rw [size_alloc]; omega) ?_)))
          intro v8 w8 hown8 hgrow8 hnil8
          have hb8 : Below (w1.heap.size + 1) wr w8 := ((Below.refl (w1.heap.size + 1) wr).alloc hbase _).grown hgrow8 (by rw [size_alloc]; omega) (fun q hq => (HO7.out.lt q hq).1)
          have HM8 : Hid (Mem w1 w8 [E1.cells]) := HM7.out.laterN hb8
          have HB8 : Hid (Below w.heap.size w w8) := HB7.out.trans (hb8.mono (by have := HN1.out; omega))
          have ho8 : w8.ownsRow (w1.heap.size + 1) 5 1 v8 (l2 + 1) (cellsU8 ((spellL false E1).take (l2 + 1))) := by
            have e : cellsU8 ((spellL false E1).take (l2 + 1)) = cellsU8 ((spellL false E1).take l2) ++ [.int .u8 (fnz E1.list i / 2 ^ (8 * j) % 256)] := by
              rw [List.take_add_one, spellL_at _ _ l2 hl64, spell4 E1 i j l2 (by have := HL2.out; omega) hj hi8]
              simp [cellsU8]
            rw [e]
            exact hown8
          clear hown8 hgrow8 hnil8 hb8
          obtain ⟨a8, c8, rfl⟩ := owns_slice ho8
          have HO8 : Hid (w8.ownsRow (w1.heap.size + 1) 5 1 (.slice a8 (l2 + 1) c8) (l2 + 1) (cellsU8 ((spellL false E1).take (l2 + 1)))) := ho8
          clear ho8 HO7 HM7 HB7
          go_wp2
          go_roundw
          case rel => exact ⟨j, l2 + 1, c8, a8, ⟨by omega, by have := HL2.out; omega⟩, rfl, rfl, HO8, HM8, HB8⟩
          case measure => simp [intOf]
    · have hls : ¬ l < szOf h := by have := HI.out; have := hm.out; omega
      have hls' : ¬ (l : Int) < (szOf h : Nat) := by omega
      go_wp2_with (go_at_call 73; refine (rsize_ok h k _).mono ?_; rintro e1 wx ⟨rfl, hwx⟩; obtain rfl := hwx.symm)
      go_ret
      have hl : l = szOf h := by have := HI.out; have := hm.out; omega
      refine ⟨_, rfl, ?_, HB6.out⟩
      have e : sumD h zs = (spellL false E1).take l := by rw [hl, HEE.out, ← hwd]; rfl
      rw [e, ← hl]
      exact owns_base HO6.out (by have := HN1.out; omega)
/-- Sum: the document's digest is the one that the streams make. -/
theorem rsum_ok {h : Int} (k : Known h) (v : Value) (zs : List Int) (w : World) (hT : RTab w) (hv : View w v zs) (hn : zs.length ≤ 140737488351232) :
    Calls Tryz.prog 49 #[.int .i64 h, v] w fun e w' => ∃ v', e = .returned v' ∧ w'.ownsRow w.heap.size 5 1 v' (szOf h) (cellsU8 (sumD h zs)) ∧ Below w.heap.size w w' := by
  obtain rfl : h = 256 := k
  exact rsum64 256 rfl rfl 8 ⟨rfl, by decide⟩ v zs w hT hv hn
end Go.Proofs.YtehlppaidgkpaaaGreatDoor.Dg
