import Derived.Test.YtbpkocohddlbhaaDoorPart10
import Derived.Test.YtbpkocohddlbhaaDoorPart04
import Derived.Test.YtbpkocohddlbhaaDoorPart06
import Derived.Test.YtbpkocohddlbhaaDoorPart07
import Derived.Test.YtbpkocohddlbhaaDoorPart09
namespace Go.Proofs.YtbpkocohddlbhaaDoor
open Go.RowKit
set_option linter.unusedVariables false
set_option linter.unusedSimpArgs false
theorem owns_some {w : World} {B n : Nat} {v : Value} {cs : List Value} (h : w.ownsRow B 5 1 v n cs) (h0 : 0 < n) : ∃ g c, v = .slice (some ⟨g, 0, none⟩) n c := by
  rcases h.2 with ⟨_, e⟩ | ⟨g, c, cur, rfl, _⟩
  · omega
  · exact ⟨g, c, rfl⟩
theorem one_cellD (w : World) (x : Int) (t : TypeId) : ∀ j u, [Value.int .u8 x][j]? = some u → (w.alloc (.cells #[.int .u8 x] t)).cell? ((⟨w.heap.size, 0, none⟩ : Addr).add j) = some u := by
  intro j u hj
  match j, hj with
  | 0, hj => simp at hj; subst hj; simp [Addr.add]
theorem one_one (x : Int) : ∀ u ∈ [Value.int .u8 x], u.oneCell' = true := by
  intro u hu; simp at hu; subst hu; rfl
/-- How many zeros. -/
def padK (bs n : Nat) : Nat := (bs - (n + 1 + bs / 8) % bs) % bs
/-- The number of bits, as bytes. -/
def bitsL (bs n : Nat) : List Int := (List.range (bs / 8)).map fun j => if 8 ≤ bs / 8 - 1 - j then 0 else ((n : Int) * 8) / 2 ^ (8 * (bs / 8 - 1 - j)) % 256
def laidL (bs : Nat) (zs : List Int) : List Int := zs ++ ([128] ++ List.replicate (padK bs zs.length) 0) ++ bitsL bs zs.length
theorem bitsL_length (bs n : Nat) : (bitsL bs n).length = bs / 8 := by simp [bitsL]
theorem bitsL_at (bs n j : Nat) (hj : j < bs / 8) : (bitsL bs n)[j]? = some (if 8 ≤ bs / 8 - 1 - j then 0 else ((n : Int) * 8) / 2 ^ (8 * (bs / 8 - 1 - j)) % 256) := by simp [bitsL, hj]
theorem laidL_length (bs : Nat) (zs : List Int) : (laidL bs zs).length = zs.length + 1 + padK bs zs.length + bs / 8 := by
  simp [laidL, bitsL_length]
  omega
set_option maxHeartbeats 1600000 in
set_option maxRecDepth 100000 in
theorem rlaid64_some (x : Addr) (cap : Nat) (zs : List Int) (n : Nat) (w : World) (hz : Hid (zs.length = n)) (hn : n ≤ 140737488351232) (h1 : Hid (∀ j u, (cellsU8 zs)[j]? = some u → w.cell? (x.add j) = some u)) :
    Calls Tryd.prog 40 #[.slice (some x) n cap, .int .i64 64] w fun e w' => ∃ v, e = .returned v ∧ w'.ownsRow w.heap.size 5 1 v (laidL 64 zs).length (cellsU8 (laidL 64 zs)) ∧ Below w.heap.size w w' := by
  obtain ⟨i0, hi, hz0, hz1, hz2⟩ := info_parts Tryd.info5
  go_enter Tryd.func40, Tryd.ntmps40
  go_wp2_with (first
    | (at_builtin; go_must (refine wpList_append_own _ rfl (.tmp 8) (.tmp 9) 23 rfl w.heap.size 5 i0 (.int .u8 0) 1 1 Tryd.underlying23 hi hz0 hz1 hz2 rfl (by decide) _ 0 [] rfl (World.ownsRow_nil _ _ _ _) x n cap (cellsU8 zs) rfl ?_ h1.out (cellsU8_one zs) ?_ ?_ (Nat.le_refl _) ?_)))
  · rw [cellsU8_length, hz.out, Nat.mul_one]
  · unfold maxLen; omega
  · omega
  intro v1 w1 hown hgrow hnil
  have HB : Hid (Below w.heap.size w w1) := (Below.refl _ _).grown hgrow (Nat.le_refl _) (by intro k hk; cases hk)
  have hown1 : w1.ownsRow w.heap.size 5 1 v1 n (cellsU8 zs) := by simpa using hown
  clear hgrow hown hnil
  go_wp2_with (first
    | (at_builtin; go_must (refine wpList_append_own _ rfl (.tmp 11) (.tmp 12) 23 rfl w.heap.size 5 i0 (.int .u8 0) 1 1 Tryd.underlying23 hi hz0 hz1 hz2 rfl (by decide) _ _ _ rfl (hown1.alloc _) ⟨w1.heap.size, 0, none⟩ 1 1 [.int .u8 128] rfl rfl (one_cellD _ _ _) (one_one _) (by unfold maxLen; omega) (by omega) (by have := HB.out.size; rw [size_alloc]; omega) ?_)))
  intro v2 w2 hown2 hgrow2 hnil2
  have HB2 : Hid (Below w.heap.size w w2) := (HB.out.alloc HB.out.size _).grown hgrow2 (by have := HB.out.size; rw [size_alloc]; omega) (fun q hq => (hown1.lt q hq).1)
  have ho2 : w2.ownsRow w.heap.size 5 1 v2 (n + 1) (cellsU8 (zs ++ [128])) := by
    have e : cellsU8 (zs ++ [128]) = cellsU8 (zs) ++ [.int .u8 128] := by simp [cellsU8, List.replicate_succ']
    rw [e]
    simpa [Nat.add_assoc] using hown2
  clear hown2 hgrow2 hnil2
  obtain ⟨g2, c2, rfl⟩ := owns_some ho2 (by omega)
  have HO2 : Hid (w2.ownsRow w.heap.size 5 1 (.slice (some ⟨g2, 0, none⟩) (n + 1) c2) (n + 1) (cellsU8 (zs ++ [128]))) := ho2
  have HK : Hid (padK 64 n < 64 ∧ (n + 1 + padK 64 n + 8) % 64 = 0) := by unfold padK; exact ⟨by omega, by omega⟩
  obtain ⟨K, hK⟩ : ∃ K, Hid (K = padK 64 n) := ⟨_, rfl⟩
  rw [← hK.out] at HK
  clear ho2 hown1 HB
  go_wp2
  go_loopw [5] (fun v wr => ∃ k l g c : Nat, Hid (k ≤ K ∧ l = n + 1 + k) ∧ v = .slice (some ⟨g, 0, none⟩) l c ∧ Hid (wr.ownsRow w.heap.size 5 1 (.slice (some ⟨g, 0, none⟩) l c) l (cellsU8 (zs ++ ([128] ++ List.replicate k 0)))) ∧ Hid (Below w.heap.size w wr)) (fun v _ => n + 1 + K - lenOf v)
  case atStart => exact ⟨0, n + 1, g2, c2, ⟨by omega, rfl⟩, rfl, HO2, HB2⟩
  case round =>
    obtain ⟨k, l, g, c, HL, rfl, HO3, HB3⟩ := hrel
    clear HO2 HB2
    have hlw : IntKind.i64.wrap ((l : Int) + 8) = (l : Int) + 8 := by
      have := HL.out; have := HK.out
      rw [IntKind.wrap_i64]
      omega
    by_cases hlt : k < K
    · have d1 : ¬ ((l : Int) + 8) % 64 = 0 := by
        have := HL.out; have := HK.out
        omega
      have hl0 : 0 < l := by have := HL.out; omega
      have hl1 : l ≤ 140737488352000 := by have := HL.out; have := HK.out; omega
      go_wp2_with (first
        | (at_builtin; go_must (refine wpList_append_own _ rfl (.tmp 22) (.tmp 23) 23 rfl w.heap.size 5 i0 (.int .u8 0) 1 1 Tryd.underlying23 hi hz0 hz1 hz2 rfl (by decide) _ _ _ rfl (HO3.out.alloc _) ⟨wr.heap.size, 0, none⟩ 1 1 [.int .u8 0] rfl rfl (one_cellD _ _ _) (one_one _) (by unfold maxLen; omega) (by omega) (by have := HB3.out.size; rw [size_alloc]; omega) ?_)))
      intro v4 w4 hown4 hgrow4 hnil4
      have HB4 : Hid (Below w.heap.size w w4) := (HB3.out.alloc HB3.out.size _).grown hgrow4 (by have := HB3.out.size; rw [size_alloc]; omega) (fun q hq => (HO3.out.lt q hq).1)
      have ho4 : w4.ownsRow w.heap.size 5 1 v4 (l + 1) (cellsU8 (zs ++ ([128] ++ List.replicate (k + 1) 0))) := by
        have e : cellsU8 (zs ++ ([128] ++ List.replicate (k + 1) 0)) = cellsU8 (zs ++ ([128] ++ List.replicate k 0)) ++ [.int .u8 0] := by simp [cellsU8, List.replicate_succ']
        rw [e]
        simpa [Nat.add_assoc] using hown4
      clear hown4 hgrow4 hnil4
      obtain ⟨g4, c4, rfl⟩ := owns_some ho4 (by omega)
      have HO4 : Hid (w4.ownsRow w.heap.size 5 1 (.slice (some ⟨g4, 0, none⟩) (l + 1) c4) (l + 1) (cellsU8 (zs ++ ([128] ++ List.replicate (k + 1) 0)))) := ho4
      clear ho4 HO3 HB3
      go_wp2
      go_roundw
      case rel => exact ⟨k + 1, l + 1, g4, c4, ⟨by omega, by have := HL.out; omega⟩, rfl, HO4, HB4⟩
      case measure => have := HL.out; simp [lenOf]; omega
    · have d1 : ((l : Int) + 8) % 64 = 0 := by
        have := HL.out; have := HK.out
        omega
      have hkK : k = K := by have := HL.out; omega
      have hbits : IntKind.u64.wrap ((n : Int) * 8) = (n : Int) * 8 := by
        rw [IntKind.wrap_u64]
        omega
      have hl1 : l ≤ 140737488352000 := by have := HL.out; have := HK.out; omega
      go_wp2
      obtain rfl := hkK
      clear d1 hlt hlw
      go_loopw [5, 7] (fun v vi wr => ∃ m l2 g c : Nat, Hid (m ≤ 8 ∧ l2 = l + (8 - m)) ∧ vi = .int .i64 ((m : Int) - 1) ∧ v = .slice (some ⟨g, 0, none⟩) l2 c ∧ Hid (wr.ownsRow w.heap.size 5 1 (.slice (some ⟨g, 0, none⟩) l2 c) l2 (cellsU8 (zs ++ ([128] ++ List.replicate k 0) ++ (bitsL 64 n).take (8 - m)))) ∧ Hid (Below w.heap.size w wr)) (fun _ vi _ => (intOf vi + 1).toNat)
      case atStart => exact ⟨8, l, g, c, ⟨by omega, by omega⟩, rfl, rfl, (by simpa using HO3.out : World.ownsRow _ _ _ _ _ _ _), HB3⟩
      case round =>
        obtain ⟨m, l2, g5, c5, HL2, rfl, rfl, HO5, HB5⟩ := hrel
        clear HO3 HB3
        rcases m with _ | i
        · rw [show ((0 : Nat) : Int) - 1 = -1 from rfl]
          go_wp2
          go_ret
          refine ⟨_, rfl, ?_, HB5.out⟩
          have hl2 : l2 = (laidL 64 zs).length := by
            rw [laidL_length, hz.out]
            have h1 := HL2.out; have h2 := HL.out; have h3 := hK.out
            unfold padK at h3 ⊢
            omega
          have hc : cellsU8 (laidL 64 zs) = cellsU8 (zs ++ ([128] ++ List.replicate k 0) ++ (bitsL 64 n).take (8 - 0)) := by
            have h3 := hK.out
            rw [laidL, hz.out, ← h3, List.take_of_length_le (by rw [bitsL_length]; omega)]
          rw [← hl2, hc]
          exact HO5.out
        · rw [show ((i + 1 : Nat) : Int) - 1 = (i : Int) by omega]
          have hi8 : i < 8 := by have := HL2.out; omega
          have hl0 : 0 < l2 := by have := HL.out; have := HL2.out; omega
          have hl3 : l2 ≤ 140737488352100 := by have := HL2.out; omega
          have hw1 : IntKind.i64.wrap (8 * (i : Int)) = 8 * (i : Int) := by rw [IntKind.wrap_i64]; omega
          have hw2 : IntKind.u64.wrap (8 * (i : Int)) = 8 * (i : Int) := by rw [IntKind.wrap_u64]; omega
          have h8 : ¬ 8 ≤ i := by omega
          have d8 : ¬ (8 : Int) ≤ (i : Int) := by omega
          go_wp2_with (first
            | (at_builtin; go_must (refine wpList_append_own _ rfl (.tmp 41) (.tmp 48) 23 rfl w.heap.size 5 i0 (.int .u8 0) 1 1 Tryd.underlying23 hi hz0 hz1 hz2 rfl (by decide) _ _ _ rfl (HO5.out.alloc _) ⟨wr.heap.size, 0, none⟩ 1 1 [.int .u8 (((n : Int) * 8) / 2 ^ (8 * i) % 256)] rfl rfl (one_cellD _ _ _) (one_one _) (by unfold maxLen; omega) (by omega) (by have := HB5.out.size; rw [size_alloc]; omega) ?_)))
          intro v6 w6 hown6 hgrow6 hnil6
          have HB6 : Hid (Below w.heap.size w w6) := (HB5.out.alloc HB5.out.size _).grown hgrow6 (by have := HB5.out.size; rw [size_alloc]; omega) (fun q hq => (HO5.out.lt q hq).1)
          have ho6 : w6.ownsRow w.heap.size 5 1 v6 (l2 + 1) (cellsU8 (zs ++ ([128] ++ List.replicate k 0) ++ (bitsL 64 n).take (8 - i))) := by
            have e : cellsU8 (zs ++ ([128] ++ List.replicate k 0) ++ (bitsL 64 n).take (8 - i)) = cellsU8 (zs ++ ([128] ++ List.replicate k 0) ++ (bitsL 64 n).take (8 - (i + 1))) ++ [.int .u8 (((n : Int) * 8) / 2 ^ (8 * i) % 256)] := by rw [show 8 - i = 8 - (i + 1) + 1 by omega, List.take_add_one, bitsL_at 64 n (8 - (i + 1)) (by omega), show 64 / 8 - 1 - (8 - (i + 1)) = i by omega, if_neg h8]; simp [cellsU8]
            rw [e]
            simpa [Nat.add_assoc] using hown6
          clear hown6 hgrow6 hnil6
          obtain ⟨g6, c6, rfl⟩ := owns_some ho6 (by omega)
          have HO6 : Hid (w6.ownsRow w.heap.size 5 1 (.slice (some ⟨g6, 0, none⟩) (l2 + 1) c6) (l2 + 1) (cellsU8 (zs ++ ([128] ++ List.replicate k 0) ++ (bitsL 64 n).take (8 - i)))) := ho6
          clear ho6 HO5 HB5
          go_wp2
          go_roundw
          case rel => exact ⟨i, l2 + 1, g6, c6, ⟨by omega, by have := HL2.out; omega⟩, rfl, rfl, HO6, HB6⟩
          case measure => simp [intOf]
set_option maxHeartbeats 1600000 in
set_option maxRecDepth 100000 in
theorem rlaid64_none (cap : Nat) (zs : List Int) (n : Nat) (w : World) (hz : Hid (zs.length = n)) (hn : n ≤ 140737488351232) (h0 : Hid (n = 0 ∧ cap = 0)) :
    Calls Tryd.prog 40 #[.slice none n cap, .int .i64 64] w fun e w' => ∃ v, e = .returned v ∧ w'.ownsRow w.heap.size 5 1 v (laidL 64 zs).length (cellsU8 (laidL 64 zs)) ∧ Below w.heap.size w w' := by
  obtain ⟨i0, hi, hz0, hz1, hz2⟩ := info_parts Tryd.info5
  go_enter Tryd.func40, Tryd.ntmps40
  go_upto_region 3 with (first
    | (at_builtin; go_must (refine wpList_append_own_none rfl (.tmp 8) (.tmp 9) 23 rfl w.heap.size 5 i0 1 Tryd.underlying23 hi _ 0 [] rfl (World.ownsRow_nil _ _ _ _) (by show Value.slice none n cap = _; rw [h0.out.1, h0.out.2]) ?_)))
  have HB : Hid (Below w.heap.size w w) := Below.refl _ _
  have hown1 : w.ownsRow w.heap.size 5 1 (.slice none 0 0) n (cellsU8 zs) := by
    have hz1 := hz.out
    rw [h0.out.1] at hz1 ⊢
    rw [List.eq_nil_of_length_eq_zero hz1]
    exact World.ownsRow_nil _ _ _ _
  go_wp2_with (first
    | (at_builtin; go_must (refine wpList_append_own _ rfl (.tmp 11) (.tmp 12) 23 rfl w.heap.size 5 i0 (.int .u8 0) 1 1 Tryd.underlying23 hi hz0 hz1 hz2 rfl (by decide) _ _ _ rfl (hown1.alloc _) ⟨w.heap.size, 0, none⟩ 1 1 [.int .u8 128] rfl rfl (one_cellD _ _ _) (one_one _) (by unfold maxLen; omega) (by omega) (by have := HB.out.size; rw [size_alloc]; omega) ?_)))
  intro v2 w2 hown2 hgrow2 hnil2
  have HB2 : Hid (Below w.heap.size w w2) := (HB.out.alloc HB.out.size _).grown hgrow2 (by have := HB.out.size; rw [size_alloc]; omega) (fun q hq => (hown1.lt q hq).1)
  have ho2 : w2.ownsRow w.heap.size 5 1 v2 (n + 1) (cellsU8 (zs ++ [128])) := by
    have e : cellsU8 (zs ++ [128]) = cellsU8 (zs) ++ [.int .u8 128] := by simp [cellsU8, List.replicate_succ']
    rw [e]
    simpa [Nat.add_assoc] using hown2
  clear hown2 hgrow2 hnil2
  obtain ⟨g2, c2, rfl⟩ := owns_some ho2 (by omega)
  have HO2 : Hid (w2.ownsRow w.heap.size 5 1 (.slice (some ⟨g2, 0, none⟩) (n + 1) c2) (n + 1) (cellsU8 (zs ++ [128]))) := ho2
  have HK : Hid (padK 64 n < 64 ∧ (n + 1 + padK 64 n + 8) % 64 = 0) := by unfold padK; exact ⟨by omega, by omega⟩
  obtain ⟨K, hK⟩ : ∃ K, Hid (K = padK 64 n) := ⟨_, rfl⟩
  rw [← hK.out] at HK
  clear ho2 hown1 HB
  go_wp2
  go_loopw [5] (fun v wr => ∃ k l g c : Nat, Hid (k ≤ K ∧ l = n + 1 + k) ∧ v = .slice (some ⟨g, 0, none⟩) l c ∧ Hid (wr.ownsRow w.heap.size 5 1 (.slice (some ⟨g, 0, none⟩) l c) l (cellsU8 (zs ++ ([128] ++ List.replicate k 0)))) ∧ Hid (Below w.heap.size w wr)) (fun v _ => n + 1 + K - lenOf v)
  case atStart => exact ⟨0, n + 1, g2, c2, ⟨by omega, rfl⟩, rfl, HO2, HB2⟩
  case round =>
    obtain ⟨k, l, g, c, HL, rfl, HO3, HB3⟩ := hrel
    clear HO2 HB2
    have hlw : IntKind.i64.wrap ((l : Int) + 8) = (l : Int) + 8 := by
      have := HL.out; have := HK.out
      rw [IntKind.wrap_i64]
      omega
    by_cases hlt : k < K
    · have d1 : ¬ ((l : Int) + 8) % 64 = 0 := by
        have := HL.out; have := HK.out
        omega
      have hl0 : 0 < l := by have := HL.out; omega
      have hl1 : l ≤ 140737488352000 := by have := HL.out; have := HK.out; omega
      go_wp2_with (first
        | (at_builtin; go_must (refine wpList_append_own _ rfl (.tmp 22) (.tmp 23) 23 rfl w.heap.size 5 i0 (.int .u8 0) 1 1 Tryd.underlying23 hi hz0 hz1 hz2 rfl (by decide) _ _ _ rfl (HO3.out.alloc _) ⟨wr.heap.size, 0, none⟩ 1 1 [.int .u8 0] rfl rfl (one_cellD _ _ _) (one_one _) (by unfold maxLen; omega) (by omega) (by have := HB3.out.size; rw [size_alloc]; omega) ?_)))
      intro v4 w4 hown4 hgrow4 hnil4
      have HB4 : Hid (Below w.heap.size w w4) := (HB3.out.alloc HB3.out.size _).grown hgrow4 (by have := HB3.out.size; rw [size_alloc]; omega) (fun q hq => (HO3.out.lt q hq).1)
      have ho4 : w4.ownsRow w.heap.size 5 1 v4 (l + 1) (cellsU8 (zs ++ ([128] ++ List.replicate (k + 1) 0))) := by
        have e : cellsU8 (zs ++ ([128] ++ List.replicate (k + 1) 0)) = cellsU8 (zs ++ ([128] ++ List.replicate k 0)) ++ [.int .u8 0] := by simp [cellsU8, List.replicate_succ']
        rw [e]
        simpa [Nat.add_assoc] using hown4
      clear hown4 hgrow4 hnil4
      obtain ⟨g4, c4, rfl⟩ := owns_some ho4 (by omega)
      have HO4 : Hid (w4.ownsRow w.heap.size 5 1 (.slice (some ⟨g4, 0, none⟩) (l + 1) c4) (l + 1) (cellsU8 (zs ++ ([128] ++ List.replicate (k + 1) 0)))) := ho4
      clear ho4 HO3 HB3
      go_wp2
      go_roundw
      case rel => exact ⟨k + 1, l + 1, g4, c4, ⟨by omega, by have := HL.out; omega⟩, rfl, HO4, HB4⟩
      case measure => have := HL.out; simp [lenOf]; omega
    · have d1 : ((l : Int) + 8) % 64 = 0 := by
        have := HL.out; have := HK.out
        omega
      have hkK : k = K := by have := HL.out; omega
      have hbits : IntKind.u64.wrap ((n : Int) * 8) = (n : Int) * 8 := by
        rw [IntKind.wrap_u64]
        omega
      have hl1 : l ≤ 140737488352000 := by have := HL.out; have := HK.out; omega
      go_wp2
      obtain rfl := hkK
      clear d1 hlt hlw
      go_loopw [5, 7] (fun v vi wr => ∃ m l2 g c : Nat, Hid (m ≤ 8 ∧ l2 = l + (8 - m)) ∧ vi = .int .i64 ((m : Int) - 1) ∧ v = .slice (some ⟨g, 0, none⟩) l2 c ∧ Hid (wr.ownsRow w.heap.size 5 1 (.slice (some ⟨g, 0, none⟩) l2 c) l2 (cellsU8 (zs ++ ([128] ++ List.replicate k 0) ++ (bitsL 64 n).take (8 - m)))) ∧ Hid (Below w.heap.size w wr)) (fun _ vi _ => (intOf vi + 1).toNat)
      case atStart => exact ⟨8, l, g, c, ⟨by omega, by omega⟩, rfl, rfl, (by simpa using HO3.out : World.ownsRow _ _ _ _ _ _ _), HB3⟩
      case round =>
        obtain ⟨m, l2, g5, c5, HL2, rfl, rfl, HO5, HB5⟩ := hrel
        clear HO3 HB3
        rcases m with _ | i
        · rw [show ((0 : Nat) : Int) - 1 = -1 from rfl]
          go_wp2
          go_ret
          refine ⟨_, rfl, ?_, HB5.out⟩
          have hl2 : l2 = (laidL 64 zs).length := by
            rw [laidL_length, hz.out]
            have h1 := HL2.out; have h2 := HL.out; have h3 := hK.out
            unfold padK at h3 ⊢
            omega
          have hc : cellsU8 (laidL 64 zs) = cellsU8 (zs ++ ([128] ++ List.replicate k 0) ++ (bitsL 64 n).take (8 - 0)) := by
            have h3 := hK.out
            rw [laidL, hz.out, ← h3, List.take_of_length_le (by rw [bitsL_length]; omega)]
          rw [← hl2, hc]
          exact HO5.out
        · rw [show ((i + 1 : Nat) : Int) - 1 = (i : Int) by omega]
          have hi8 : i < 8 := by have := HL2.out; omega
          have hl0 : 0 < l2 := by have := HL.out; have := HL2.out; omega
          have hl3 : l2 ≤ 140737488352100 := by have := HL2.out; omega
          have hw1 : IntKind.i64.wrap (8 * (i : Int)) = 8 * (i : Int) := by rw [IntKind.wrap_i64]; omega
          have hw2 : IntKind.u64.wrap (8 * (i : Int)) = 8 * (i : Int) := by rw [IntKind.wrap_u64]; omega
          have h8 : ¬ 8 ≤ i := by omega
          have d8 : ¬ (8 : Int) ≤ (i : Int) := by omega
          go_wp2_with (first
            | (at_builtin; go_must (refine wpList_append_own _ rfl (.tmp 41) (.tmp 48) 23 rfl w.heap.size 5 i0 (.int .u8 0) 1 1 Tryd.underlying23 hi hz0 hz1 hz2 rfl (by decide) _ _ _ rfl (HO5.out.alloc _) ⟨wr.heap.size, 0, none⟩ 1 1 [.int .u8 (((n : Int) * 8) / 2 ^ (8 * i) % 256)] rfl rfl (one_cellD _ _ _) (one_one _) (by unfold maxLen; omega) (by omega) (by have := HB5.out.size; rw [size_alloc]; omega) ?_)))
          intro v6 w6 hown6 hgrow6 hnil6
          have HB6 : Hid (Below w.heap.size w w6) := (HB5.out.alloc HB5.out.size _).grown hgrow6 (by have := HB5.out.size; rw [size_alloc]; omega) (fun q hq => (HO5.out.lt q hq).1)
          have ho6 : w6.ownsRow w.heap.size 5 1 v6 (l2 + 1) (cellsU8 (zs ++ ([128] ++ List.replicate k 0) ++ (bitsL 64 n).take (8 - i))) := by
            have e : cellsU8 (zs ++ ([128] ++ List.replicate k 0) ++ (bitsL 64 n).take (8 - i)) = cellsU8 (zs ++ ([128] ++ List.replicate k 0) ++ (bitsL 64 n).take (8 - (i + 1))) ++ [.int .u8 (((n : Int) * 8) / 2 ^ (8 * i) % 256)] := by rw [show 8 - i = 8 - (i + 1) + 1 by omega, List.take_add_one, bitsL_at 64 n (8 - (i + 1)) (by omega), show 64 / 8 - 1 - (8 - (i + 1)) = i by omega, if_neg h8]; simp [cellsU8]
            rw [e]
            simpa [Nat.add_assoc] using hown6
          clear hown6 hgrow6 hnil6
          obtain ⟨g6, c6, rfl⟩ := owns_some ho6 (by omega)
          have HO6 : Hid (w6.ownsRow w.heap.size 5 1 (.slice (some ⟨g6, 0, none⟩) (l2 + 1) c6) (l2 + 1) (cellsU8 (zs ++ ([128] ++ List.replicate k 0) ++ (bitsL 64 n).take (8 - i)))) := ho6
          clear ho6 HO5 HB5
          go_wp2
          go_roundw
          case rel => exact ⟨i, l2 + 1, g6, c6, ⟨by omega, by have := HL2.out; omega⟩, rfl, rfl, HO6, HB6⟩
          case measure => simp [intOf]
set_option maxHeartbeats 1600000 in
set_option maxRecDepth 100000 in
theorem rlaid128_some (x : Addr) (cap : Nat) (zs : List Int) (n : Nat) (w : World) (hz : Hid (zs.length = n)) (hn : n ≤ 140737488351232) (h1 : Hid (∀ j u, (cellsU8 zs)[j]? = some u → w.cell? (x.add j) = some u)) :
    Calls Tryd.prog 40 #[.slice (some x) n cap, .int .i64 128] w fun e w' => ∃ v, e = .returned v ∧ w'.ownsRow w.heap.size 5 1 v (laidL 128 zs).length (cellsU8 (laidL 128 zs)) ∧ Below w.heap.size w w' := by
  obtain ⟨i0, hi, hz0, hz1, hz2⟩ := info_parts Tryd.info5
  go_enter Tryd.func40, Tryd.ntmps40
  go_wp2_with (first
    | (at_builtin; go_must (refine wpList_append_own _ rfl (.tmp 8) (.tmp 9) 23 rfl w.heap.size 5 i0 (.int .u8 0) 1 1 Tryd.underlying23 hi hz0 hz1 hz2 rfl (by decide) _ 0 [] rfl (World.ownsRow_nil _ _ _ _) x n cap (cellsU8 zs) rfl ?_ h1.out (cellsU8_one zs) ?_ ?_ (Nat.le_refl _) ?_)))
  · rw [cellsU8_length, hz.out, Nat.mul_one]
  · unfold maxLen; omega
  · omega
  intro v1 w1 hown hgrow hnil
  have HB : Hid (Below w.heap.size w w1) := (Below.refl _ _).grown hgrow (Nat.le_refl _) (by intro k hk; cases hk)
  have hown1 : w1.ownsRow w.heap.size 5 1 v1 n (cellsU8 zs) := by simpa using hown
  clear hgrow hown hnil
  go_wp2_with (first
    | (at_builtin; go_must (refine wpList_append_own _ rfl (.tmp 11) (.tmp 12) 23 rfl w.heap.size 5 i0 (.int .u8 0) 1 1 Tryd.underlying23 hi hz0 hz1 hz2 rfl (by decide) _ _ _ rfl (hown1.alloc _) ⟨w1.heap.size, 0, none⟩ 1 1 [.int .u8 128] rfl rfl (one_cellD _ _ _) (one_one _) (by unfold maxLen; omega) (by omega) (by have := HB.out.size; rw [size_alloc]; omega) ?_)))
  intro v2 w2 hown2 hgrow2 hnil2
  have HB2 : Hid (Below w.heap.size w w2) := (HB.out.alloc HB.out.size _).grown hgrow2 (by have := HB.out.size; rw [size_alloc]; omega) (fun q hq => (hown1.lt q hq).1)
  have ho2 : w2.ownsRow w.heap.size 5 1 v2 (n + 1) (cellsU8 (zs ++ [128])) := by
    have e : cellsU8 (zs ++ [128]) = cellsU8 (zs) ++ [.int .u8 128] := by simp [cellsU8, List.replicate_succ']
    rw [e]
    simpa [Nat.add_assoc] using hown2
  clear hown2 hgrow2 hnil2
  obtain ⟨g2, c2, rfl⟩ := owns_some ho2 (by omega)
  have HO2 : Hid (w2.ownsRow w.heap.size 5 1 (.slice (some ⟨g2, 0, none⟩) (n + 1) c2) (n + 1) (cellsU8 (zs ++ [128]))) := ho2
  have HK : Hid (padK 128 n < 128 ∧ (n + 1 + padK 128 n + 16) % 128 = 0) := by unfold padK; exact ⟨by omega, by omega⟩
  obtain ⟨K, hK⟩ : ∃ K, Hid (K = padK 128 n) := ⟨_, rfl⟩
  rw [← hK.out] at HK
  clear ho2 hown1 HB
  go_wp2
  go_loopw [5] (fun v wr => ∃ k l g c : Nat, Hid (k ≤ K ∧ l = n + 1 + k) ∧ v = .slice (some ⟨g, 0, none⟩) l c ∧ Hid (wr.ownsRow w.heap.size 5 1 (.slice (some ⟨g, 0, none⟩) l c) l (cellsU8 (zs ++ ([128] ++ List.replicate k 0)))) ∧ Hid (Below w.heap.size w wr)) (fun v _ => n + 1 + K - lenOf v)
  case atStart => exact ⟨0, n + 1, g2, c2, ⟨by omega, rfl⟩, rfl, HO2, HB2⟩
  case round =>
    obtain ⟨k, l, g, c, HL, rfl, HO3, HB3⟩ := hrel
    clear HO2 HB2
    have hlw : IntKind.i64.wrap ((l : Int) + 16) = (l : Int) + 16 := by
      have := HL.out; have := HK.out
      rw [IntKind.wrap_i64]
      omega
    by_cases hlt : k < K
    · have d1 : ¬ ((l : Int) + 16) % 128 = 0 := by
        have := HL.out; have := HK.out
        omega
      have hl0 : 0 < l := by have := HL.out; omega
      have hl1 : l ≤ 140737488352000 := by have := HL.out; have := HK.out; omega
      go_wp2_with (first
        | (at_builtin; go_must (refine wpList_append_own _ rfl (.tmp 22) (.tmp 23) 23 rfl w.heap.size 5 i0 (.int .u8 0) 1 1 Tryd.underlying23 hi hz0 hz1 hz2 rfl (by decide) _ _ _ rfl (HO3.out.alloc _) ⟨wr.heap.size, 0, none⟩ 1 1 [.int .u8 0] rfl rfl (one_cellD _ _ _) (one_one _) (by unfold maxLen; omega) (by omega) (by have := HB3.out.size; rw [size_alloc]; omega) ?_)))
      intro v4 w4 hown4 hgrow4 hnil4
      have HB4 : Hid (Below w.heap.size w w4) := (HB3.out.alloc HB3.out.size _).grown hgrow4 (by have := HB3.out.size; rw [size_alloc]; omega) (fun q hq => (HO3.out.lt q hq).1)
      have ho4 : w4.ownsRow w.heap.size 5 1 v4 (l + 1) (cellsU8 (zs ++ ([128] ++ List.replicate (k + 1) 0))) := by
        have e : cellsU8 (zs ++ ([128] ++ List.replicate (k + 1) 0)) = cellsU8 (zs ++ ([128] ++ List.replicate k 0)) ++ [.int .u8 0] := by simp [cellsU8, List.replicate_succ']
        rw [e]
        simpa [Nat.add_assoc] using hown4
      clear hown4 hgrow4 hnil4
      obtain ⟨g4, c4, rfl⟩ := owns_some ho4 (by omega)
      have HO4 : Hid (w4.ownsRow w.heap.size 5 1 (.slice (some ⟨g4, 0, none⟩) (l + 1) c4) (l + 1) (cellsU8 (zs ++ ([128] ++ List.replicate (k + 1) 0)))) := ho4
      clear ho4 HO3 HB3
      go_wp2
      go_roundw
      case rel => exact ⟨k + 1, l + 1, g4, c4, ⟨by omega, by have := HL.out; omega⟩, rfl, HO4, HB4⟩
      case measure => have := HL.out; simp [lenOf]; omega
    · have d1 : ((l : Int) + 16) % 128 = 0 := by
        have := HL.out; have := HK.out
        omega
      have hkK : k = K := by have := HL.out; omega
      have hbits : IntKind.u64.wrap ((n : Int) * 8) = (n : Int) * 8 := by
        rw [IntKind.wrap_u64]
        omega
      have hl1 : l ≤ 140737488352000 := by have := HL.out; have := HK.out; omega
      go_wp2
      obtain rfl := hkK
      clear d1 hlt hlw
      go_loopw [5, 7] (fun v vi wr => ∃ m l2 g c : Nat, Hid (m ≤ 16 ∧ l2 = l + (16 - m)) ∧ vi = .int .i64 ((m : Int) - 1) ∧ v = .slice (some ⟨g, 0, none⟩) l2 c ∧ Hid (wr.ownsRow w.heap.size 5 1 (.slice (some ⟨g, 0, none⟩) l2 c) l2 (cellsU8 (zs ++ ([128] ++ List.replicate k 0) ++ (bitsL 128 n).take (16 - m)))) ∧ Hid (Below w.heap.size w wr)) (fun _ vi _ => (intOf vi + 1).toNat)
      case atStart => exact ⟨16, l, g, c, ⟨by omega, by omega⟩, rfl, rfl, (by simpa using HO3.out : World.ownsRow _ _ _ _ _ _ _), HB3⟩
      case round =>
        obtain ⟨m, l2, g5, c5, HL2, rfl, rfl, HO5, HB5⟩ := hrel
        clear HO3 HB3
        rcases m with _ | i
        · rw [show ((0 : Nat) : Int) - 1 = -1 from rfl]
          go_wp2
          go_ret
          refine ⟨_, rfl, ?_, HB5.out⟩
          have hl2 : l2 = (laidL 128 zs).length := by
            rw [laidL_length, hz.out]
            have h1 := HL2.out; have h2 := HL.out; have h3 := hK.out
            unfold padK at h3 ⊢
            omega
          have hc : cellsU8 (laidL 128 zs) = cellsU8 (zs ++ ([128] ++ List.replicate k 0) ++ (bitsL 128 n).take (16 - 0)) := by
            have h3 := hK.out
            rw [laidL, hz.out, ← h3, List.take_of_length_le (by rw [bitsL_length]; omega)]
          rw [← hl2, hc]
          exact HO5.out
        · rw [show ((i + 1 : Nat) : Int) - 1 = (i : Int) by omega]
          have hi8 : i < 16 := by have := HL2.out; omega
          have hl0 : 0 < l2 := by have := HL.out; have := HL2.out; omega
          have hl3 : l2 ≤ 140737488352100 := by have := HL2.out; omega
          have hw1 : IntKind.i64.wrap (8 * (i : Int)) = 8 * (i : Int) := by rw [IntKind.wrap_i64]; omega
          have hw2 : IntKind.u64.wrap (8 * (i : Int)) = 8 * (i : Int) := by rw [IntKind.wrap_u64]; omega
          by_cases h8 : 8 ≤ i
          · have d8 : (8 : Int) ≤ (i : Int) := by omega
            go_wp2_with (first
              | (at_builtin; go_must (refine wpList_append_own _ rfl (.tmp 38) (.tmp 39) 23 rfl w.heap.size 5 i0 (.int .u8 0) 1 1 Tryd.underlying23 hi hz0 hz1 hz2 rfl (by decide) _ _ _ rfl (HO5.out.alloc _) ⟨wr.heap.size, 0, none⟩ 1 1 [.int .u8 0] rfl rfl (one_cellD _ _ _) (one_one _) (by unfold maxLen; omega) (by omega) (by have := HB5.out.size; rw [size_alloc]; omega) ?_)))
            intro v6 w6 hown6 hgrow6 hnil6
            have HB6 : Hid (Below w.heap.size w w6) := (HB5.out.alloc HB5.out.size _).grown hgrow6 (by have := HB5.out.size; rw [size_alloc]; omega) (fun q hq => (HO5.out.lt q hq).1)
            have ho6 : w6.ownsRow w.heap.size 5 1 v6 (l2 + 1) (cellsU8 (zs ++ ([128] ++ List.replicate k 0) ++ (bitsL 128 n).take (16 - i))) := by
              have e : cellsU8 (zs ++ ([128] ++ List.replicate k 0) ++ (bitsL 128 n).take (16 - i)) = cellsU8 (zs ++ ([128] ++ List.replicate k 0) ++ (bitsL 128 n).take (16 - (i + 1))) ++ [.int .u8 0] := by rw [show 16 - i = 16 - (i + 1) + 1 by omega, List.take_add_one, bitsL_at 128 n (16 - (i + 1)) (by omega), show 128 / 8 - 1 - (16 - (i + 1)) = i by omega, if_pos h8]; simp [cellsU8]
              rw [e]
              simpa [Nat.add_assoc] using hown6
            clear hown6 hgrow6 hnil6
            obtain ⟨g6, c6, rfl⟩ := owns_some ho6 (by omega)
            have HO6 : Hid (w6.ownsRow w.heap.size 5 1 (.slice (some ⟨g6, 0, none⟩) (l2 + 1) c6) (l2 + 1) (cellsU8 (zs ++ ([128] ++ List.replicate k 0) ++ (bitsL 128 n).take (16 - i)))) := ho6
            clear ho6 HO5 HB5
            go_wp2
            go_roundw
            case rel => exact ⟨i, l2 + 1, g6, c6, ⟨by omega, by have := HL2.out; omega⟩, rfl, rfl, HO6, HB6⟩
            case measure => simp [intOf]
          · have d8 : ¬ (8 : Int) ≤ (i : Int) := by omega
            go_wp2_with (first
              | (at_builtin; go_must (refine wpList_append_own _ rfl (.tmp 41) (.tmp 48) 23 rfl w.heap.size 5 i0 (.int .u8 0) 1 1 Tryd.underlying23 hi hz0 hz1 hz2 rfl (by decide) _ _ _ rfl (HO5.out.alloc _) ⟨wr.heap.size, 0, none⟩ 1 1 [.int .u8 (((n : Int) * 8) / 2 ^ (8 * i) % 256)] rfl rfl (one_cellD _ _ _) (one_one _) (by unfold maxLen; omega) (by omega) (by have := HB5.out.size; rw [size_alloc]; omega) ?_)))
            intro v6 w6 hown6 hgrow6 hnil6
            have HB6 : Hid (Below w.heap.size w w6) := (HB5.out.alloc HB5.out.size _).grown hgrow6 (by have := HB5.out.size; rw [size_alloc]; omega) (fun q hq => (HO5.out.lt q hq).1)
            have ho6 : w6.ownsRow w.heap.size 5 1 v6 (l2 + 1) (cellsU8 (zs ++ ([128] ++ List.replicate k 0) ++ (bitsL 128 n).take (16 - i))) := by
              have e : cellsU8 (zs ++ ([128] ++ List.replicate k 0) ++ (bitsL 128 n).take (16 - i)) = cellsU8 (zs ++ ([128] ++ List.replicate k 0) ++ (bitsL 128 n).take (16 - (i + 1))) ++ [.int .u8 (((n : Int) * 8) / 2 ^ (8 * i) % 256)] := by rw [show 16 - i = 16 - (i + 1) + 1 by omega, List.take_add_one, bitsL_at 128 n (16 - (i + 1)) (by omega), show 128 / 8 - 1 - (16 - (i + 1)) = i by omega, if_neg h8]; simp [cellsU8]
              rw [e]
              simpa [Nat.add_assoc] using hown6
            clear hown6 hgrow6 hnil6
            obtain ⟨g6, c6, rfl⟩ := owns_some ho6 (by omega)
            have HO6 : Hid (w6.ownsRow w.heap.size 5 1 (.slice (some ⟨g6, 0, none⟩) (l2 + 1) c6) (l2 + 1) (cellsU8 (zs ++ ([128] ++ List.replicate k 0) ++ (bitsL 128 n).take (16 - i)))) := ho6
            clear ho6 HO5 HB5
            go_wp2
            go_roundw
            case rel => exact ⟨i, l2 + 1, g6, c6, ⟨by omega, by have := HL2.out; omega⟩, rfl, rfl, HO6, HB6⟩
            case measure => simp [intOf]
set_option maxHeartbeats 1600000 in
set_option maxRecDepth 100000 in
theorem rlaid128_none (cap : Nat) (zs : List Int) (n : Nat) (w : World) (hz : Hid (zs.length = n)) (hn : n ≤ 140737488351232) (h0 : Hid (n = 0 ∧ cap = 0)) :
    Calls Tryd.prog 40 #[.slice none n cap, .int .i64 128] w fun e w' => ∃ v, e = .returned v ∧ w'.ownsRow w.heap.size 5 1 v (laidL 128 zs).length (cellsU8 (laidL 128 zs)) ∧ Below w.heap.size w w' := by
  obtain ⟨i0, hi, hz0, hz1, hz2⟩ := info_parts Tryd.info5
  go_enter Tryd.func40, Tryd.ntmps40
  go_upto_region 3 with (first
    | (at_builtin; go_must (refine wpList_append_own_none rfl (.tmp 8) (.tmp 9) 23 rfl w.heap.size 5 i0 1 Tryd.underlying23 hi _ 0 [] rfl (World.ownsRow_nil _ _ _ _) (by show Value.slice none n cap = _; rw [h0.out.1, h0.out.2]) ?_)))
  have HB : Hid (Below w.heap.size w w) := Below.refl _ _
  have hown1 : w.ownsRow w.heap.size 5 1 (.slice none 0 0) n (cellsU8 zs) := by
    have hz1 := hz.out
    rw [h0.out.1] at hz1 ⊢
    rw [List.eq_nil_of_length_eq_zero hz1]
    exact World.ownsRow_nil _ _ _ _
  go_wp2_with (first
    | (at_builtin; go_must (refine wpList_append_own _ rfl (.tmp 11) (.tmp 12) 23 rfl w.heap.size 5 i0 (.int .u8 0) 1 1 Tryd.underlying23 hi hz0 hz1 hz2 rfl (by decide) _ _ _ rfl (hown1.alloc _) ⟨w.heap.size, 0, none⟩ 1 1 [.int .u8 128] rfl rfl (one_cellD _ _ _) (one_one _) (by unfold maxLen; omega) (by omega) (by have := HB.out.size; rw [size_alloc]; omega) ?_)))
  intro v2 w2 hown2 hgrow2 hnil2
  have HB2 : Hid (Below w.heap.size w w2) := (HB.out.alloc HB.out.size _).grown hgrow2 (by have := HB.out.size; rw [size_alloc]; omega) (fun q hq => (hown1.lt q hq).1)
  have ho2 : w2.ownsRow w.heap.size 5 1 v2 (n + 1) (cellsU8 (zs ++ [128])) := by
    have e : cellsU8 (zs ++ [128]) = cellsU8 (zs) ++ [.int .u8 128] := by simp [cellsU8, List.replicate_succ']
    rw [e]
    simpa [Nat.add_assoc] using hown2
  clear hown2 hgrow2 hnil2
  obtain ⟨g2, c2, rfl⟩ := owns_some ho2 (by omega)
  have HO2 : Hid (w2.ownsRow w.heap.size 5 1 (.slice (some ⟨g2, 0, none⟩) (n + 1) c2) (n + 1) (cellsU8 (zs ++ [128]))) := ho2
  have HK : Hid (padK 128 n < 128 ∧ (n + 1 + padK 128 n + 16) % 128 = 0) := by unfold padK; exact ⟨by omega, by omega⟩
  obtain ⟨K, hK⟩ : ∃ K, Hid (K = padK 128 n) := ⟨_, rfl⟩
  rw [← hK.out] at HK
  clear ho2 hown1 HB
  go_wp2
  go_loopw [5] (fun v wr => ∃ k l g c : Nat, Hid (k ≤ K ∧ l = n + 1 + k) ∧ v = .slice (some ⟨g, 0, none⟩) l c ∧ Hid (wr.ownsRow w.heap.size 5 1 (.slice (some ⟨g, 0, none⟩) l c) l (cellsU8 (zs ++ ([128] ++ List.replicate k 0)))) ∧ Hid (Below w.heap.size w wr)) (fun v _ => n + 1 + K - lenOf v)
  case atStart => exact ⟨0, n + 1, g2, c2, ⟨by omega, rfl⟩, rfl, HO2, HB2⟩
  case round =>
    obtain ⟨k, l, g, c, HL, rfl, HO3, HB3⟩ := hrel
    clear HO2 HB2
    have hlw : IntKind.i64.wrap ((l : Int) + 16) = (l : Int) + 16 := by
      have := HL.out; have := HK.out
      rw [IntKind.wrap_i64]
      omega
    by_cases hlt : k < K
    · have d1 : ¬ ((l : Int) + 16) % 128 = 0 := by
        have := HL.out; have := HK.out
        omega
      have hl0 : 0 < l := by have := HL.out; omega
      have hl1 : l ≤ 140737488352000 := by have := HL.out; have := HK.out; omega
      go_wp2_with (first
        | (at_builtin; go_must (refine wpList_append_own _ rfl (.tmp 22) (.tmp 23) 23 rfl w.heap.size 5 i0 (.int .u8 0) 1 1 Tryd.underlying23 hi hz0 hz1 hz2 rfl (by decide) _ _ _ rfl (HO3.out.alloc _) ⟨wr.heap.size, 0, none⟩ 1 1 [.int .u8 0] rfl rfl (one_cellD _ _ _) (one_one _) (by unfold maxLen; omega) (by omega) (by have := HB3.out.size; rw [size_alloc]; omega) ?_)))
      intro v4 w4 hown4 hgrow4 hnil4
      have HB4 : Hid (Below w.heap.size w w4) := (HB3.out.alloc HB3.out.size _).grown hgrow4 (by have := HB3.out.size; rw [size_alloc]; omega) (fun q hq => (HO3.out.lt q hq).1)
      have ho4 : w4.ownsRow w.heap.size 5 1 v4 (l + 1) (cellsU8 (zs ++ ([128] ++ List.replicate (k + 1) 0))) := by
        have e : cellsU8 (zs ++ ([128] ++ List.replicate (k + 1) 0)) = cellsU8 (zs ++ ([128] ++ List.replicate k 0)) ++ [.int .u8 0] := by simp [cellsU8, List.replicate_succ']
        rw [e]
        simpa [Nat.add_assoc] using hown4
      clear hown4 hgrow4 hnil4
      obtain ⟨g4, c4, rfl⟩ := owns_some ho4 (by omega)
      have HO4 : Hid (w4.ownsRow w.heap.size 5 1 (.slice (some ⟨g4, 0, none⟩) (l + 1) c4) (l + 1) (cellsU8 (zs ++ ([128] ++ List.replicate (k + 1) 0)))) := ho4
      clear ho4 HO3 HB3
      go_wp2
      go_roundw
      case rel => exact ⟨k + 1, l + 1, g4, c4, ⟨by omega, by have := HL.out; omega⟩, rfl, HO4, HB4⟩
      case measure => have := HL.out; simp [lenOf]; omega
    · have d1 : ((l : Int) + 16) % 128 = 0 := by
        have := HL.out; have := HK.out
        omega
      have hkK : k = K := by have := HL.out; omega
      have hbits : IntKind.u64.wrap ((n : Int) * 8) = (n : Int) * 8 := by
        rw [IntKind.wrap_u64]
        omega
      have hl1 : l ≤ 140737488352000 := by have := HL.out; have := HK.out; omega
      go_wp2
      obtain rfl := hkK
      clear d1 hlt hlw
      go_loopw [5, 7] (fun v vi wr => ∃ m l2 g c : Nat, Hid (m ≤ 16 ∧ l2 = l + (16 - m)) ∧ vi = .int .i64 ((m : Int) - 1) ∧ v = .slice (some ⟨g, 0, none⟩) l2 c ∧ Hid (wr.ownsRow w.heap.size 5 1 (.slice (some ⟨g, 0, none⟩) l2 c) l2 (cellsU8 (zs ++ ([128] ++ List.replicate k 0) ++ (bitsL 128 n).take (16 - m)))) ∧ Hid (Below w.heap.size w wr)) (fun _ vi _ => (intOf vi + 1).toNat)
      case atStart => exact ⟨16, l, g, c, ⟨by omega, by omega⟩, rfl, rfl, (by simpa using HO3.out : World.ownsRow _ _ _ _ _ _ _), HB3⟩
      case round =>
        obtain ⟨m, l2, g5, c5, HL2, rfl, rfl, HO5, HB5⟩ := hrel
        clear HO3 HB3
        rcases m with _ | i
        · rw [show ((0 : Nat) : Int) - 1 = -1 from rfl]
          go_wp2
          go_ret
          refine ⟨_, rfl, ?_, HB5.out⟩
          have hl2 : l2 = (laidL 128 zs).length := by
            rw [laidL_length, hz.out]
            have h1 := HL2.out; have h2 := HL.out; have h3 := hK.out
            unfold padK at h3 ⊢
            omega
          have hc : cellsU8 (laidL 128 zs) = cellsU8 (zs ++ ([128] ++ List.replicate k 0) ++ (bitsL 128 n).take (16 - 0)) := by
            have h3 := hK.out
            rw [laidL, hz.out, ← h3, List.take_of_length_le (by rw [bitsL_length]; omega)]
          rw [← hl2, hc]
          exact HO5.out
        · rw [show ((i + 1 : Nat) : Int) - 1 = (i : Int) by omega]
          have hi8 : i < 16 := by have := HL2.out; omega
          have hl0 : 0 < l2 := by have := HL.out; have := HL2.out; omega
          have hl3 : l2 ≤ 140737488352100 := by have := HL2.out; omega
          have hw1 : IntKind.i64.wrap (8 * (i : Int)) = 8 * (i : Int) := by rw [IntKind.wrap_i64]; omega
          have hw2 : IntKind.u64.wrap (8 * (i : Int)) = 8 * (i : Int) := by rw [IntKind.wrap_u64]; omega
          by_cases h8 : 8 ≤ i
          · have d8 : (8 : Int) ≤ (i : Int) := by omega
            go_wp2_with (first
              | (at_builtin; go_must (refine wpList_append_own _ rfl (.tmp 38) (.tmp 39) 23 rfl w.heap.size 5 i0 (.int .u8 0) 1 1 Tryd.underlying23 hi hz0 hz1 hz2 rfl (by decide) _ _ _ rfl (HO5.out.alloc _) ⟨wr.heap.size, 0, none⟩ 1 1 [.int .u8 0] rfl rfl (one_cellD _ _ _) (one_one _) (by unfold maxLen; omega) (by omega) (by have := HB5.out.size; rw [size_alloc]; omega) ?_)))
            intro v6 w6 hown6 hgrow6 hnil6
            have HB6 : Hid (Below w.heap.size w w6) := (HB5.out.alloc HB5.out.size _).grown hgrow6 (by have := HB5.out.size; rw [size_alloc]; omega) (fun q hq => (HO5.out.lt q hq).1)
            have ho6 : w6.ownsRow w.heap.size 5 1 v6 (l2 + 1) (cellsU8 (zs ++ ([128] ++ List.replicate k 0) ++ (bitsL 128 n).take (16 - i))) := by
              have e : cellsU8 (zs ++ ([128] ++ List.replicate k 0) ++ (bitsL 128 n).take (16 - i)) = cellsU8 (zs ++ ([128] ++ List.replicate k 0) ++ (bitsL 128 n).take (16 - (i + 1))) ++ [.int .u8 0] := by rw [show 16 - i = 16 - (i + 1) + 1 by omega, List.take_add_one, bitsL_at 128 n (16 - (i + 1)) (by omega), show 128 / 8 - 1 - (16 - (i + 1)) = i by omega, if_pos h8]; simp [cellsU8]
              rw [e]
              simpa [Nat.add_assoc] using hown6
            clear hown6 hgrow6 hnil6
            obtain ⟨g6, c6, rfl⟩ := owns_some ho6 (by omega)
            have HO6 : Hid (w6.ownsRow w.heap.size 5 1 (.slice (some ⟨g6, 0, none⟩) (l2 + 1) c6) (l2 + 1) (cellsU8 (zs ++ ([128] ++ List.replicate k 0) ++ (bitsL 128 n).take (16 - i)))) := ho6
            clear ho6 HO5 HB5
            go_wp2
            go_roundw
            case rel => exact ⟨i, l2 + 1, g6, c6, ⟨by omega, by have := HL2.out; omega⟩, rfl, rfl, HO6, HB6⟩
            case measure => simp [intOf]
          · have d8 : ¬ (8 : Int) ≤ (i : Int) := by omega
            go_wp2_with (first
              | (at_builtin; go_must (refine wpList_append_own _ rfl (.tmp 41) (.tmp 48) 23 rfl w.heap.size 5 i0 (.int .u8 0) 1 1 Tryd.underlying23 hi hz0 hz1 hz2 rfl (by decide) _ _ _ rfl (HO5.out.alloc _) ⟨wr.heap.size, 0, none⟩ 1 1 [.int .u8 (((n : Int) * 8) / 2 ^ (8 * i) % 256)] rfl rfl (one_cellD _ _ _) (one_one _) (by unfold maxLen; omega) (by omega) (by have := HB5.out.size; rw [size_alloc]; omega) ?_)))
            intro v6 w6 hown6 hgrow6 hnil6
            have HB6 : Hid (Below w.heap.size w w6) := (HB5.out.alloc HB5.out.size _).grown hgrow6 (by have := HB5.out.size; rw [size_alloc]; omega) (fun q hq => (HO5.out.lt q hq).1)
            have ho6 : w6.ownsRow w.heap.size 5 1 v6 (l2 + 1) (cellsU8 (zs ++ ([128] ++ List.replicate k 0) ++ (bitsL 128 n).take (16 - i))) := by
              have e : cellsU8 (zs ++ ([128] ++ List.replicate k 0) ++ (bitsL 128 n).take (16 - i)) = cellsU8 (zs ++ ([128] ++ List.replicate k 0) ++ (bitsL 128 n).take (16 - (i + 1))) ++ [.int .u8 (((n : Int) * 8) / 2 ^ (8 * i) % 256)] := by rw [show 16 - i = 16 - (i + 1) + 1 by omega, List.take_add_one, bitsL_at 128 n (16 - (i + 1)) (by omega), show 128 / 8 - 1 - (16 - (i + 1)) = i by omega, if_neg h8]; simp [cellsU8]
              rw [e]
              simpa [Nat.add_assoc] using hown6
            clear hown6 hgrow6 hnil6
            obtain ⟨g6, c6, rfl⟩ := owns_some ho6 (by omega)
            have HO6 : Hid (w6.ownsRow w.heap.size 5 1 (.slice (some ⟨g6, 0, none⟩) (l2 + 1) c6) (l2 + 1) (cellsU8 (zs ++ ([128] ++ List.replicate k 0) ++ (bitsL 128 n).take (16 - i)))) := ho6
            clear ho6 HO5 HB5
            go_wp2
            go_roundw
            case rel => exact ⟨i, l2 + 1, g6, c6, ⟨by omega, by have := HL2.out; omega⟩, rfl, rfl, HO6, HB6⟩
            case measure => simp [intOf]
/-- laid. -/
theorem rlaid_any (wd : Bool) (v : Value) (zs : List Int) (w : World) (hv : View w v zs) (hn : zs.length ≤ 140737488351232) :
    Calls Tryd.prog 40 #[v, .int .i64 (bsz wd)] w fun e w' => ∃ v', e = .returned v' ∧ w'.ownsRow w.heap.size 5 1 v' (laidL (bsz wd) zs).length (cellsU8 (laidL (bsz wd) zs)) ∧ Below w.heap.size w w' := by
  obtain ⟨a, cap, rfl, h1, h2, h3, h4⟩ := hv
  rcases a with _ | x
  · obtain rfl := h3 rfl
    have hz : zs = [] := by
      rcases h4 with h | ⟨b, p, h, _⟩
      · exact h
      · cases h
    cases wd
    · exact rlaid64_none 0 zs zs.length w rfl hn ⟨by rw [hz]; rfl, rfl⟩
    · exact rlaid128_none 0 zs zs.length w rfl hn ⟨by rw [hz]; rfl, rfl⟩
  · have hc : ∀ j u, (cellsU8 zs)[j]? = some u → w.cell? (x.add j) = some u := by
      rcases h4 with rfl | ⟨b, p, h, hc⟩
      · intro j u hu
        simp [cellsU8] at hu
      · injection h with h
        subst h
        exact cellsU8_at zs w b p hc
    cases wd
    · exact rlaid64_some x cap zs zs.length w rfl hn hc
    · exact rlaid128_some x cap zs zs.length w rfl hn hc
end Go.Proofs.YtbpkocohddlbhaaDoor
namespace Go.Proofs.YtbpkocohddlbhaaDoor
open Go.RowKit
set_option linter.unusedVariables false
theorem fnz_laid (bs : Nat) (zs : List Int) (P : Nat) : fnz (laidL bs zs) P = if P < zs.length then fnz zs P else if P = zs.length then 128 else if P < zs.length + 1 + padK bs zs.length then 0 else fnz (bitsL bs zs.length) (P - (zs.length + 1 + padK bs zs.length)) := by
  unfold laidL
  by_cases h1 : P < zs.length
  · rw [if_pos h1, List.append_assoc, fnz_left _ _ _ h1]
  · rw [if_neg h1]
    have e : (zs ++ ([128] ++ List.replicate (padK bs zs.length) 0)).length = zs.length + 1 + padK bs zs.length := by simp; omega
    by_cases h2 : P = zs.length
    · rw [if_pos h2, h2, List.append_assoc]
      have := fnz_right zs ([128] ++ List.replicate (padK bs zs.length) (0 : Int) ++ bitsL bs zs.length) 0
      rw [Nat.add_zero] at this
      rw [this]
      rfl
    · rw [if_neg h2]
      by_cases h3 : P < zs.length + 1 + padK bs zs.length
      · rw [if_pos h3, fnz_left _ _ _ (by rw [e]; exact h3)]
        have := fnz_right zs ([128] ++ List.replicate (padK bs zs.length) (0 : Int)) (P - zs.length)
        rw [show zs.length + (P - zs.length) = P by omega] at this
        rw [this]
        have h4 := fnz_right [128] (List.replicate (padK bs zs.length) (0 : Int)) (P - zs.length - 1)
        rw [show [(128 : Int)].length + (P - zs.length - 1) = P - zs.length by simp; omega] at h4
        rw [h4]
        simp only [fnz, List.getD, List.getElem?_replicate]
        split <;> rfl
      · rw [if_neg h3]
        have := fnz_right (zs ++ ([128] ++ List.replicate (padK bs zs.length) (0 : Int))) (bitsL bs zs.length) (P - (zs.length + 1 + padK bs zs.length))
        rw [e, show zs.length + 1 + padK bs zs.length + (P - (zs.length + 1 + padK bs zs.length)) = P by omega] at this
        exact this
theorem fnz_bits (bs n j : Nat) (hj : j < bs / 8) : fnz (bitsL bs n) j = if 8 ≤ bs / 8 - 1 - j then 0 else ((n : Int) * 8) / 2 ^ (8 * (bs / 8 - 1 - j)) % 256 := by
  rw [fnz, List.getD_eq_getElem?_getD, bitsL_at bs n j hj]
  rfl
theorem laid_blocks (wd : Bool) (zs : List Int) : (laidL (bsz wd) zs).length = bsz wd * (zs.length / bsz wd + padN (bsz wd) zs.length) := by
  rw [laidL_length]
  cases wd
  · simp only [bsz, Bool.false_eq_true, if_false]
    unfold padK padN
    split <;> omega
  · simp only [bsz, if_true]
    unfold padK padN
    split <;> omega
theorem laid_pad (wd : Bool) (zs : List Int) (k : Nat) (hk : k < bsz wd * padN (bsz wd) zs.length) : fnz (laidL (bsz wd) zs) (bsz wd * (zs.length / bsz wd) + k) = padF (bsz wd) (fun i => fnz zs (bsz wd * (zs.length / bsz wd) + i)) zs.length k := by
  have hb := laid_blocks wd zs
  rw [laidL_length] at hb
  rw [fnz_laid]
  unfold padF
  have hd : bsz wd * (zs.length / bsz wd) + zs.length % bsz wd = zs.length := Nat.div_add_mod _ _
  by_cases h1 : k < zs.length % bsz wd
  · rw [if_pos (by omega), if_pos h1]
  · rw [if_neg (by omega), if_neg h1]
    by_cases h2 : k = zs.length % bsz wd
    · rw [if_pos (by omega), if_pos h2]
    · rw [if_neg (by omega), if_neg h2]
      rw [Nat.mul_add] at hb
      rw [Nat.mul_comm (padN _ _)]
      by_cases h3 : bsz wd * (zs.length / bsz wd) + k < zs.length + 1 + padK (bsz wd) zs.length
      · rw [if_pos h3, if_pos (by cases wd <;> simp only [bsz, Bool.false_eq_true, if_false, if_true] at * <;> omega)]
      · rw [if_neg h3, fnz_bits _ _ _ (by omega)]
        have e : bsz wd / 8 - 1 - (bsz wd * (zs.length / bsz wd) + k - (zs.length + 1 + padK (bsz wd) zs.length)) = bsz wd * padN (bsz wd) zs.length - 1 - k := by omega
        rw [e]
        by_cases h4 : k + 8 < bsz wd * padN (bsz wd) zs.length
        · rw [if_pos (by omega), if_pos h4]
        · rw [if_neg (by omega), if_neg h4]
/-- What is laid down whole and taken block by block ends in the same words. -/
theorem endW_laid (wd : Bool) (s0 : Eight) (zs : List Int) : TT wd (fnz (laidL (bsz wd) zs)) s0 ((laidL (bsz wd) zs).length / bsz wd) = endW wd s0 0 zs := by
  have hb := bsz_pos wd
  rw [laid_blocks, Nat.mul_div_cancel_left _ hb, TT_add]
  unfold endW
  rw [Nat.zero_add]
  have h1 : TT wd (fnz (laidL (bsz wd) zs)) s0 (zs.length / bsz wd) = TT wd (fnz zs) s0 (zs.length / bsz wd) := TT_congr wd s0 _ fun j hj => by
    have := Nat.mul_div_le zs.length (bsz wd)
    rw [fnz_laid, if_pos (by omega)]
  rw [h1]
  exact TT_congr wd _ _ fun k hk => laid_pad wd zs k hk
theorem padN_pos (bs n : Nat) : 1 ≤ padN bs n := by unfold padN; split <;> omega
end Go.Proofs.YtbpkocohddlbhaaDoor
namespace Go.Proofs.YtbpkocohddlbhaaDoor
open Go.RowKit
set_option linter.unusedVariables false
set_option linter.unusedSimpArgs false
theorem Mem.laterN {w wr wn : World} {L : List (List Value)} (h : Mem w wr L) (hb : Below (w.heap.size + L.length) wr wn) : Mem w wn L := by
  refine ⟨h.below.trans (hb.mono (by omega)), Nat.le_trans h.size hb.size, fun i cs hi => ?_⟩
  have hl : i < L.length := (List.getElem?_eq_some_iff.1 hi).1
  obtain ⟨h1, h2⟩ := h.holds i cs hi
  refine ⟨fun j v hv => ?_, fun j hj => ?_⟩
  · rw [hb.cell (p := ⟨w.heap.size + i, 0 + j, none⟩) (by show w.heap.size + i < _; omega)]
    exact h1 j v hv
  · rw [hb.cell (p := ⟨w.heap.size + i, 0 + j, none⟩) (by show w.heap.size + i < _; omega), hb.frozen (p := ⟨w.heap.size + i, 0 + j, none⟩) (by show w.heap.size + i < _; omega)]
    exact h2 j hj
theorem owns_slice {w : World} {B n : Nat} {v : Value} {cs : List Value} (h : w.ownsRow B 5 1 v n cs) : ∃ a c, v = .slice a n c := by
  rcases h.2 with ⟨rfl, e⟩ | ⟨g, c, cur, rfl, _⟩
  · exact ⟨none, 0, by rw [e]⟩
  · exact ⟨some ⟨g, 0, none⟩, c, rfl⟩
theorem owns_base {w : World} {B B' n : Nat} {v : Value} {cs : List Value} (h : w.ownsRow B 5 1 v n cs) (hB : B' ≤ B) : w.ownsRow B' 5 1 v n cs := by
  obtain ⟨h1, h2⟩ := h
  refine ⟨h1, ?_⟩
  rcases h2 with h2 | ⟨g, c, cur, e, q1, q⟩
  · exact .inl h2
  · exact .inr ⟨g, c, cur, e, Nat.le_trans hB q1, q⟩
theorem spellL_at (wd : Bool) (s : Eight) (l : Nat) (hl : l < 64) : (spellL wd s)[l]? = some (spellAt (wsz wd) s l) := by simp [spellL, hl]
theorem pow256 (j : Nat) : (2 : Int) ^ (8 * j) = 256 ^ j := by rw [Int.pow_mul]; rfl
theorem spell4 (s : Eight) (i j l : Nat) (hl : l = 4 * i + (4 - (j + 1))) (hj : j < 4) (hi : i < 8) : spellAt (wsz false) s l = fnz s.list i / 2 ^ (8 * j) % 256 := by
  show spellAt 4 s l = _
  unfold spellAt
  rw [if_pos (by omega), show l / 4 = i by omega, show 4 - 1 - l % 4 = j by omega, pow256]
theorem spell8 (s : Eight) (i j l : Nat) (hl : l = 8 * i + (8 - (j + 1))) (hj : j < 8) (hi : i < 8) : spellAt (wsz true) s l = fnz s.list i / 2 ^ (8 * j) % 256 := by
  show spellAt 8 s l = _
  unfold spellAt
  rw [if_pos (by omega), show l / 8 = i by omega, show 8 - 1 - l % 8 = j by omega, pow256]
set_option maxHeartbeats 3200000 in
set_option maxRecDepth 100000 in
theorem rsum64 (h : Int) (k : Known h) (hwd : wdOf h = false) (m : Nat) (hm : Hid (szOf h = 4 * m ∧ m ≤ 8)) (v : Value) (zs : List Int) (w : World) (hT : RTab w) (hv : View w v zs) (hn : zs.length ≤ 140737488351232) :
    Calls Tryd.prog 27 #[.int .i64 h, v] w fun e w' => ∃ v', e = .returned v' ∧ w'.ownsRow w.heap.size 5 1 v' (szOf h) (cellsU8 (sumD h zs)) ∧ Below w.heap.size w w' := by
  have HT : Hid (RTab w) := hT
  have HV : Hid (View w v zs) := hv
  have hn2 : Hid (zs.length ≤ 140737488351232) := hn
  have hb48 : Hid (∀ u, Calls Tryd.prog 38 #[.int .i64 h] u fun e w' => e = .returned (.int .i64 64) ∧ w' = u) := fun u => by
    have := rblock_ok h k u
    rw [hwd] at this
    exact this
  obtain ⟨i0, hi, hz0, hz1, hz2⟩ := info_parts Tryd.info5
  clear hT hv hn
  go_enter Tryd.func27, Tryd.ntmps27
  go_wp2_with (go_at_call 38; refine (hb48.out _).mono ?_; rintro e1 wx ⟨rfl, hwx⟩; obtain rfl := hwx.symm)
  go_upto_region 5 with (go_at_call 39; refine (rfirst_any k w HT).mono ?_)
  rintro e w1 ⟨rfl, hb1⟩
  obtain ⟨E0, HE0⟩ : ∃ E0 : Eight, Hid (E0 = firstE h) := ⟨_, rfl⟩
  rw [← HE0.out]
  have HN1 : Hid (w.heap.size ≤ w1.heap.size) := hb1.size
  have HMa : Hid (Mem w1 (w1.alloc (.cells #[.int .u64 0, .int .u64 0, .int .u64 0, .int .u64 0, .int .u64 0, .int .u64 0, .int .u64 0, .int .u64 0] 66)) [[.int .u64 0, .int .u64 0, .int .u64 0, .int .u64 0, .int .u64 0, .int .u64 0, .int .u64 0, .int .u64 0]]) := (Mem.nil w1).alloc rfl _ _
  have HBa : Hid (Below w.heap.size w (w1.alloc (.cells #[.int .u64 0, .int .u64 0, .int .u64 0, .int .u64 0, .int .u64 0, .int .u64 0, .int .u64 0, .int .u64 0] 66))) := hb1.alloc hb1.size _
  have HYa : Hid ((w1.alloc (.cells #[.int .u64 0, .int .u64 0, .int .u64 0, .int .u64 0, .int .u64 0, .int .u64 0, .int .u64 0, .int .u64 0] 66)).there w1.heap.size 0 E0.cells.toArray.size) := (HMa.out.holds 0 _ rfl).2
  clear hb1
  go_upto_region 5 with (refine wpList_store_mid (by rfl) 66 (.tmp 6) (.tmp 18) (by rfl) w1.heap.size 0 E0.cells.toArray (by rfl) (by rfl) HYa.out size70 (cellsE_one E0) ?_)
  have HM2 : Hid (Mem w1 ((w1.alloc (.cells #[.int .u64 0, .int .u64 0, .int .u64 0, .int .u64 0, .int .u64 0, .int .u64 0, .int .u64 0, .int .u64 0] 66)).setCells w1.heap.size 0 E0.cells) [E0.cells]) := (HMa.out.store 0 rfl E0.cells rfl).congr rfl
  have HB2 : Hid (Below w.heap.size w ((w1.alloc (.cells #[.int .u64 0, .int .u64 0, .int .u64 0, .int .u64 0, .int .u64 0, .int .u64 0, .int .u64 0, .int .u64 0] 66)).setCells w1.heap.size 0 E0.cells)) := below_setCells _ HN1.out _ _ _ HBa.out
  clear HMa HBa HYa
  generalize (w1.alloc (.cells #[.int .u64 0, .int .u64 0, .int .u64 0, .int .u64 0, .int .u64 0, .int .u64 0, .int .u64 0, .int .u64 0] 66)).setCells w1.heap.size 0 E0.cells = w2 at HM2 HB2 ⊢
  have H50 : Hid (Calls Tryd.prog 40 #[v, .int .i64 64] w2 fun e w' => ∃ v', e = .returned v' ∧ w'.ownsRow w2.heap.size 5 1 v' (laidL (bsz false) zs).length (cellsU8 (laidL (bsz false) zs)) ∧ Below w2.heap.size w2 w') := rlaid_any false v zs w2 (HV.out.kept fun b hb => HB2.out.block b hb) hn2.out
  go_upto_region 6 with (go_at_call 40; refine H50.out.mono ?_)
  clear H50
  rintro e w3 ⟨v3, rfl, ho3, hb3⟩
  obtain ⟨Z, HZ⟩ : ∃ Z, Hid (Z = laidL (bsz false) zs) := ⟨_, rfl⟩
  rw [← HZ.out] at ho3
  obtain ⟨L, HLZ⟩ : ∃ L, Hid (L = Z.length) := ⟨_, rfl⟩
  rw [← HLZ.out] at ho3
  have HL1 : Hid (64 ≤ L ∧ L = 64 * (L / 64)) := by
    have h1 := laid_blocks false zs
    have h2 := padN_pos (bsz false) zs.length
    rw [← HZ.out, ← HLZ.out] at h1
    have h3 : L = 64 * (zs.length / bsz false + padN (bsz false) zs.length) := h1
    generalize zs.length / bsz false = x1 at h3
    generalize padN (bsz false) zs.length = x2 at h2 h3
    show 64 ≤ L ∧ L = 64 * (L / 64)
    omega
  obtain ⟨g, c, rfl⟩ := owns_some ho3 (by have := HL1.out; omega)
  have HGN : Hid (g ≠ w1.heap.size) := by
    have h1 := (ho3.lt g rfl).1
    have h2 := HM2.out.size
    simp at h2
    show g ≠ w1.heap.size
    omega
  have HL : Hid (L = 64 * (L / 64) ∧ L ≤ c ∧ c ≤ 9223372036854775807 ∧ g < w3.heap.size ∧ ∀ i, i < L → w3.cell? ⟨g, 0 + i, none⟩ = some (.int .u8 (fnz Z i))) := by
    have h1 := viewOwns ho3 HLZ.out.symm
    obtain ⟨a', cap', e1, q1, q2, q3, q4⟩ := h1
    injection e1 with e1 e2 e3
    subst e3
    refine ⟨HL1.out.2, by rw [← HLZ.out] at q1; exact q1, by unfold maxLen at q2; omega, (ho3.lt g rfl).2, fun i hi => ?_⟩
    rcases q4 with q4 | ⟨b', p', e4, q5⟩
    · rw [HLZ.out, q4] at hi
      simp at hi
    · rw [← e1] at e4
      injection e4 with e4
      injection e4 with e5 e6
      subst e5 e6
      exact q5 i (by rw [← HLZ.out]; exact hi)
  have HM3 : Hid (Mem w1 w3 [E0.cells]) := HM2.out.later hb3
  have HB3 : Hid (Below w.heap.size w w3) := HB2.out.trans (hb3.mono HB2.out.size)
  have HT3 : Hid (RTab w3) := HT.out.below HB3.out HT.out.size
  clear HM2 HB2 ho3 hb3 HV
  have hTw := HT3.out
  go_upto_region 13 with (first
    | (refine wpList_load_mid (by rfl) 66 (.tmp 6) (by rfl) w1.heap.size 0 (by rfl) E0.cells _ ((HM3.out.holds 0 _ rfl).1) Tryd.underlying66 rfl size70 ?_)
    | (go_at_call 41; refine (rnarrow_walk E0.a E0.b E0.c E0.d E0.e E0.f E0.g E0.k (fnz Z) g 0 L (L / 64) c w3 hTw HL.out.1 HL.out.2.1 HL.out.2.2.1 HL.out.2.2.2.1 HL.out.2.2.2.2).mono ?_)
    | fail)
  rintro e w4 ⟨rfl, hb4⟩
  obtain ⟨E1, HE1⟩ : ∃ E1 : Eight, Hid (E1 = (takes32 cubeAt (fnz Z) ⟨E0.a, E0.b, E0.c, E0.d, E0.e, E0.f, E0.g, E0.k⟩ (L / 64)).low) := ⟨_, rfl⟩
  rw [← HE1.out]
  have HM4 : Hid (Mem w1 w4 [E0.cells]) := HM3.out.later hb4
  have HB4 : Hid (Below w.heap.size w w4) := HB3.out.trans (hb4.mono HB3.out.size)
  have HM5 : Hid (Mem w1 (w4.setCells w1.heap.size 0 E1.cells) [E1.cells]) := (HM4.out.store 0 rfl E1.cells rfl).congr rfl
  have HB5 : Hid (Below w.heap.size w (w4.setCells w1.heap.size 0 E1.cells)) := below_setCells _ HN1.out _ _ _ HB4.out
  have HY : Hid (w4.there w1.heap.size 0 E1.cells.toArray.size) := (HM4.out.holds 0 _ rfl).2
  have HEE : Hid (E1 = endW (wdOf h) (firstE h) 0 zs) := by
    rw [HE1.out, hwd, ← endW_laid false, ← HE0.out, ← HZ.out]
    have hL : L = Z.length := HLZ.out
    have h1 : 1 ≤ L / 64 := by have := HL1.out; omega
    obtain ⟨t, ht⟩ : ∃ t, L / 64 = t + 1 := ⟨L / 64 - 1, by omega⟩
    have e : takes32 cubeAt (fnz Z) ⟨E0.a, E0.b, E0.c, E0.d, E0.e, E0.f, E0.g, E0.k⟩ (L / 64) = TT false (fnz Z) E0 (Z.length / bsz false) := by rw [← hL]; rfl
    rw [← e, ht]
    exact low_low _ _ _
  clear HM3 HB3 HE1 HM4 HB4 hb4 hTw
  go_upto_region 13 with (refine wpList_store_mid (by rfl) 66 (.tmp 6) (.tmp 28) (by rfl) w1.heap.size 0 E1.cells.toArray (by rfl) (by rfl) HY.out size70 (cellsE_one E1) ?_)
  clear HY
  change Code.wp _ _ _ _ (w4.setCells w1.heap.size 0 E1.cells) at *
  generalize w4.setCells w1.heap.size 0 E1.cells = w5 at HM5 HB5 ⊢
  go_wp2
  go_loopw [10, 11] (fun v vi wr => ∃ i l c : Nat, ∃ a : Option Addr, Hid (i ≤ m ∧ l = 4 * i) ∧ vi = .int .i64 i ∧ v = .slice a l c ∧ Hid (wr.ownsRow (w1.heap.size + 1) 5 1 (.slice a l c) l (cellsU8 ((spellL false E1).take l))) ∧ Hid (Mem w1 wr [E1.cells]) ∧ Hid (Below w.heap.size w wr)) (fun _ vi _ => m - (intOf vi).toNat)
  case atStart => exact ⟨0, 0, 0, none, ⟨Nat.zero_le _, rfl⟩, rfl, rfl, World.ownsRow_nil _ _ _ _, HM5, HB5⟩
  case round =>
    obtain ⟨i, l, c0, a, HI, rfl, rfl, HO6, HM6, HB6⟩ := hrel
    clear HM5 HB5
    by_cases him : i < m
    · have hi8 : i < 8 := by have := hm.out; omega
      have hls : l < szOf h := by have := HI.out; have := hm.out; omega
      have hls' : (l : Int) < (szOf h : Nat) := by omega
      go_wp2_with (go_at_call 43; refine (rsize_ok h k _).mono ?_; rintro e1 wx ⟨rfl, hwx⟩; obtain rfl := hwx.symm)
      go_loopw [10, 12] (fun v vj wr => ∃ q l c : Nat, ∃ a : Option Addr, Hid (q ≤ 4 ∧ l = 4 * i + (4 - q)) ∧ vj = .int .i64 ((q : Int) - 1) ∧ v = .slice a l c ∧ Hid (wr.ownsRow (w1.heap.size + 1) 5 1 (.slice a l c) l (cellsU8 ((spellL false E1).take l))) ∧ Hid (Mem w1 wr [E1.cells]) ∧ Hid (Below w.heap.size w wr)) (fun _ vj _ => (intOf vj + 1).toNat)
      case atStart => exact ⟨4, l, c0, a, ⟨by omega, by have := HI.out; omega⟩, rfl, rfl, HO6, HM6, HB6⟩
      case round =>
        obtain ⟨q, l2, c2, a2, HL2, rfl, rfl, HO7, HM7, HB7⟩ := hrel
        clear HO6 HM6 HB6
        rcases q with _ | j
        · rw [show ((0 : Nat) : Int) - 1 = -1 from rfl]
          go_wp2
          go_roundw
          case rel => exact ⟨i + 1, l2, c2, a2, ⟨by omega, by have := HL2.out; omega⟩, by go_num, rfl, HO7, HM7, HB7⟩
          case measure => simp [intOf]; omega
        · rw [show ((j + 1 : Nat) : Int) - 1 = (j : Int) by omega]
          have hj : j < 4 := by have := HL2.out; omega
          have hls2 : l2 < szOf h := by have := HL2.out; have := hm.out; omega
          have hls3 : (l2 : Int) < (szOf h : Nat) := by omega
          have hl64 : l2 < 64 := by have := HL2.out; omega
          have hj0 : (0 : Int) ≤ (j : Int) := by omega
          have hw1 : IntKind.i64.wrap (8 * (j : Int)) = 8 * (j : Int) := by rw [IntKind.wrap_i64]; omega
          have hw2 : IntKind.u64.wrap (8 * (j : Int)) = 8 * (j : Int) := by rw [IntKind.wrap_u64]; omega
          have f0 : wr.cell? ⟨w1.heap.size, i, none⟩ = some (.int .u64 (fnz E1.list i)) := HM7.out.cell 0 rfl i _ (by rw [cells_Cl]; exact Cl_at _ _ i hi8)
          have hbase : w1.heap.size + 1 ≤ wr.heap.size := HM7.out.size
          go_wp2_with (first
            | (go_at_call 43; refine (rsize_ok h k _).mono ?_; rintro e1 wx ⟨rfl, hwx⟩; obtain rfl := hwx.symm)
            | (at_builtin; go_must (refine wpList_append_own _ rfl (.tmp 62) (.tmp 71) 23 rfl (w1.heap.size + 1) 5 i0 (.int .u8 0) 1 1 Tryd.underlying23 hi hz0 hz1 hz2 rfl (by decide) _ _ _ rfl (HO7.out.alloc _) ⟨wr.heap.size, 0, none⟩ 1 1 [.int .u8 (fnz E1.list i / 2 ^ (8 * j) % 256)] rfl rfl (one_cellD _ _ _) (one_one _) (by unfold maxLen; omega) (by omega) (by rw [size_alloc]; omega) ?_)))
          intro v8 w8 hown8 hgrow8 hnil8
          have hb8 : Below (w1.heap.size + 1) wr w8 := ((Below.refl (w1.heap.size + 1) wr).alloc hbase _).grown hgrow8 (by rw [size_alloc]; omega) (fun q hq => (HO7.out.lt q hq).1)
          have HM8 : Hid (Mem w1 w8 [E1.cells]) := HM7.out.laterN hb8
          have HB8 : Hid (Below w.heap.size w w8) := HB7.out.trans (hb8.mono (by have := HN1.out; omega))
          have ho8 : w8.ownsRow (w1.heap.size + 1) 5 1 v8 (l2 + 1) (cellsU8 ((spellL false E1).take (l2 + 1))) := by
            have e : cellsU8 ((spellL false E1).take (l2 + 1)) = cellsU8 ((spellL false E1).take l2) ++ [.int .u8 (fnz E1.list i / 2 ^ (8 * j) % 256)] := by
              rw [List.take_add_one, spellL_at _ _ l2 hl64, spell4 E1 i j l2 (by have := HL2.out; omega) hj hi8]
              simp [cellsU8]
            rw [e]
            exact hown8
          clear hown8 hgrow8 hnil8 hb8
          obtain ⟨a8, c8, rfl⟩ := owns_slice ho8
          have HO8 : Hid (w8.ownsRow (w1.heap.size + 1) 5 1 (.slice a8 (l2 + 1) c8) (l2 + 1) (cellsU8 ((spellL false E1).take (l2 + 1)))) := ho8
          clear ho8 HO7 HM7 HB7
          go_wp2
          go_roundw
          case rel => exact ⟨j, l2 + 1, c8, a8, ⟨by omega, by have := HL2.out; omega⟩, rfl, rfl, HO8, HM8, HB8⟩
          case measure => simp [intOf]
    · have hls : ¬ l < szOf h := by have := HI.out; have := hm.out; omega
      have hls' : ¬ (l : Int) < (szOf h : Nat) := by omega
      go_wp2_with (go_at_call 43; refine (rsize_ok h k _).mono ?_; rintro e1 wx ⟨rfl, hwx⟩; obtain rfl := hwx.symm)
      go_ret
      have hl : l = szOf h := by have := HI.out; have := hm.out; omega
      refine ⟨_, rfl, ?_, HB6.out⟩
      have e : sumD h zs = (spellL false E1).take l := by rw [hl, HEE.out, ← hwd]; rfl
      rw [e, ← hl]
      exact owns_base HO6.out (by have := HN1.out; omega)
set_option maxHeartbeats 3200000 in
set_option maxRecDepth 100000 in
theorem rsum128 (h : Int) (k : Known h) (hwd : wdOf h = true) (m : Nat) (hm : Hid (szOf h = 8 * m ∧ m ≤ 8)) (v : Value) (zs : List Int) (w : World) (hT : RTab w) (hv : View w v zs) (hn : zs.length ≤ 140737488351232) :
    Calls Tryd.prog 27 #[.int .i64 h, v] w fun e w' => ∃ v', e = .returned v' ∧ w'.ownsRow w.heap.size 5 1 v' (szOf h) (cellsU8 (sumD h zs)) ∧ Below w.heap.size w w' := by
  have HT : Hid (RTab w) := hT
  have HV : Hid (View w v zs) := hv
  have hn2 : Hid (zs.length ≤ 140737488351232) := hn
  have hb48 : Hid (∀ u, Calls Tryd.prog 38 #[.int .i64 h] u fun e w' => e = .returned (.int .i64 128) ∧ w' = u) := fun u => by
    have := rblock_ok h k u
    rw [hwd] at this
    exact this
  obtain ⟨i0, hi, hz0, hz1, hz2⟩ := info_parts Tryd.info5
  clear hT hv hn
  go_enter Tryd.func27, Tryd.ntmps27
  go_wp2_with (go_at_call 38; refine (hb48.out _).mono ?_; rintro e1 wx ⟨rfl, hwx⟩; obtain rfl := hwx.symm)
  go_upto_region 5 with (go_at_call 39; refine (rfirst_any k w HT).mono ?_)
  rintro e w1 ⟨rfl, hb1⟩
  obtain ⟨E0, HE0⟩ : ∃ E0 : Eight, Hid (E0 = firstE h) := ⟨_, rfl⟩
  rw [← HE0.out]
  have HN1 : Hid (w.heap.size ≤ w1.heap.size) := hb1.size
  have HMa : Hid (Mem w1 (w1.alloc (.cells #[.int .u64 0, .int .u64 0, .int .u64 0, .int .u64 0, .int .u64 0, .int .u64 0, .int .u64 0, .int .u64 0] 66)) [[.int .u64 0, .int .u64 0, .int .u64 0, .int .u64 0, .int .u64 0, .int .u64 0, .int .u64 0, .int .u64 0]]) := (Mem.nil w1).alloc rfl _ _
  have HBa : Hid (Below w.heap.size w (w1.alloc (.cells #[.int .u64 0, .int .u64 0, .int .u64 0, .int .u64 0, .int .u64 0, .int .u64 0, .int .u64 0, .int .u64 0] 66))) := hb1.alloc hb1.size _
  have HYa : Hid ((w1.alloc (.cells #[.int .u64 0, .int .u64 0, .int .u64 0, .int .u64 0, .int .u64 0, .int .u64 0, .int .u64 0, .int .u64 0] 66)).there w1.heap.size 0 E0.cells.toArray.size) := (HMa.out.holds 0 _ rfl).2
  clear hb1
  go_upto_region 5 with (refine wpList_store_mid (by rfl) 66 (.tmp 6) (.tmp 18) (by rfl) w1.heap.size 0 E0.cells.toArray (by rfl) (by rfl) HYa.out size70 (cellsE_one E0) ?_)
  have HM2 : Hid (Mem w1 ((w1.alloc (.cells #[.int .u64 0, .int .u64 0, .int .u64 0, .int .u64 0, .int .u64 0, .int .u64 0, .int .u64 0, .int .u64 0] 66)).setCells w1.heap.size 0 E0.cells) [E0.cells]) := (HMa.out.store 0 rfl E0.cells rfl).congr rfl
  have HB2 : Hid (Below w.heap.size w ((w1.alloc (.cells #[.int .u64 0, .int .u64 0, .int .u64 0, .int .u64 0, .int .u64 0, .int .u64 0, .int .u64 0, .int .u64 0] 66)).setCells w1.heap.size 0 E0.cells)) := below_setCells _ HN1.out _ _ _ HBa.out
  clear HMa HBa HYa
  generalize (w1.alloc (.cells #[.int .u64 0, .int .u64 0, .int .u64 0, .int .u64 0, .int .u64 0, .int .u64 0, .int .u64 0, .int .u64 0] 66)).setCells w1.heap.size 0 E0.cells = w2 at HM2 HB2 ⊢
  have H50 : Hid (Calls Tryd.prog 40 #[v, .int .i64 128] w2 fun e w' => ∃ v', e = .returned v' ∧ w'.ownsRow w2.heap.size 5 1 v' (laidL (bsz true) zs).length (cellsU8 (laidL (bsz true) zs)) ∧ Below w2.heap.size w2 w') := rlaid_any true v zs w2 (HV.out.kept fun b hb => HB2.out.block b hb) hn2.out
  go_upto_region 6 with (go_at_call 40; refine H50.out.mono ?_)
  clear H50
  rintro e w3 ⟨v3, rfl, ho3, hb3⟩
  obtain ⟨Z, HZ⟩ : ∃ Z, Hid (Z = laidL (bsz true) zs) := ⟨_, rfl⟩
  rw [← HZ.out] at ho3
  obtain ⟨L, HLZ⟩ : ∃ L, Hid (L = Z.length) := ⟨_, rfl⟩
  rw [← HLZ.out] at ho3
  have HL1 : Hid (128 ≤ L ∧ L = 128 * (L / 128)) := by
    have h1 := laid_blocks true zs
    have h2 := padN_pos (bsz true) zs.length
    rw [← HZ.out, ← HLZ.out] at h1
    have h3 : L = 128 * (zs.length / bsz true + padN (bsz true) zs.length) := h1
    generalize zs.length / bsz true = x1 at h3
    generalize padN (bsz true) zs.length = x2 at h2 h3
    show 128 ≤ L ∧ L = 128 * (L / 128)
    omega
  obtain ⟨g, c, rfl⟩ := owns_some ho3 (by have := HL1.out; omega)
  have HGN : Hid (g ≠ w1.heap.size) := by
    have h1 := (ho3.lt g rfl).1
    have h2 := HM2.out.size
    simp at h2
    show g ≠ w1.heap.size
    omega
  have HL : Hid (L = 128 * (L / 128) ∧ L ≤ c ∧ c ≤ 9223372036854775807 ∧ g < w3.heap.size ∧ ∀ i, i < L → w3.cell? ⟨g, 0 + i, none⟩ = some (.int .u8 (fnz Z i))) := by
    have h1 := viewOwns ho3 HLZ.out.symm
    obtain ⟨a', cap', e1, q1, q2, q3, q4⟩ := h1
    injection e1 with e1 e2 e3
    subst e3
    refine ⟨HL1.out.2, by rw [← HLZ.out] at q1; exact q1, by unfold maxLen at q2; omega, (ho3.lt g rfl).2, fun i hi => ?_⟩
    rcases q4 with q4 | ⟨b', p', e4, q5⟩
    · rw [HLZ.out, q4] at hi
      simp at hi
    · rw [← e1] at e4
      injection e4 with e4
      injection e4 with e5 e6
      subst e5 e6
      exact q5 i (by rw [← HLZ.out]; exact hi)
  have HM3 : Hid (Mem w1 w3 [E0.cells]) := HM2.out.later hb3
  have HB3 : Hid (Below w.heap.size w w3) := HB2.out.trans (hb3.mono HB2.out.size)
  have HT3 : Hid (RTab w3) := HT.out.below HB3.out HT.out.size
  clear HM2 HB2 ho3 hb3 HV
  go_wp2
  go_loopw [9] (fun v wr => ∃ i : Nat, Hid (128 * i ≤ L) ∧ v = .int .i64 ((128 * i : Nat) : Int) ∧ Hid (Mem w1 wr [(takes64 cubeAt (fnz Z) E0 i).cells]) ∧ Hid (Below w.heap.size w wr) ∧ Hid (Below w3.heap.size w3 (wr.setCells w1.heap.size 0 E0.cells) ∨ True) ∧ Hid (∀ i, i < L → wr.cell? ⟨g, 0 + i, none⟩ = some (.int .u8 (fnz Z i))) ∧ Hid (g < wr.heap.size)) (fun v _ => L - (intOf v).toNat)
  case atStart => exact ⟨0, Nat.zero_le _, rfl, HM3, HB3, .inr trivial, HL.out.2.2.2.2, HL.out.2.2.2.1⟩
  case round =>
    obtain ⟨i, hi, rfl, HM, HBr, _, HC, Hg⟩ := hrel
    clear HM3 HB3
    obtain ⟨q, hq⟩ : ∃ q, q = 128 * i := ⟨_, rfl⟩
    obtain ⟨E, HE⟩ : ∃ E : Eight, Hid (E = takes64 cubeAt (fnz Z) E0 i) := ⟨_, rfl⟩
    rw [← HE.out] at HM
    rw [← hq]
    have HQ : Hid (q = 128 * i) := hq
    clear hq
    by_cases hlt : q < L
    · have h128 : q + 128 ≤ L := by have := HQ.out; have := HL.out.1; omega
      have hq64 : IntKind.i64.wrap ((q : Int) + 128) = (q : Int) + 128 := by
        have := HL.out.2.2.1; have := HL.out.2.1
        rw [IntKind.wrap_i64]
        omega
      have HSl : Hid (∀ u, (Instr.slice 23 (.slice (some ⟨g, 0, none⟩) L c) (some (.int .i64 (q : Nat))) (some (.int .i64 ((q : Int) + 128))) none).run Tryd.prog u = .ok (.slice (some ⟨g, q, none⟩) 128 (c - q)) u) := fun u => by
        have := slice22 u g 0 L c q 128 128 rfl (by omega) (by have := HL.out.2.1; omega)
        rwa [Nat.zero_add] at this
      obtain ⟨E2, HE2⟩ : ∃ E2 : Eight, Hid (E2 = takes64 cubeAt (fnz Z) E0 (i + 1)) := ⟨_, rfl⟩
      have HCall : Hid (∀ u, Below wr.heap.size wr u → Calls Tryd.prog 42 #[.agg E.cells.toArray, .slice (some ⟨g, q, none⟩) 128 (c - q)] u fun e w' => e = .returned (.agg E2.cells.toArray) ∧ Below wr.heap.size wr w') := fun u hu => by
        refine (taken64_walk E.a E.b E.c E.d E.e E.f E.g E.k cubeAt (fun j => fnz Z (128 * i + j)) g q (c - q) u (fun t ht => ?_) (by have := HL.out.2.1; omega) (by have := HL.out.2.2.1; omega) (fun j hj => ?_)).mono fun e w' h => ⟨?_, hu.trans (h.2.mono hu.size)⟩
        · have hs := HT.out.size
          have hs2 := HBr.out.size
          rw [hu.cell (p := ⟨1, t, none⟩) (by show 1 < _; omega), HBr.out.cell (p := ⟨1, t, none⟩) (by show 1 < _; omega)]
          exact HT.out.cubes t ht
        · have h5 := HC.out (q + j) (by omega)
          rw [Nat.zero_add] at h5
          rw [hu.cell Hg.out, h5, HQ.out]
        · rw [h.1, HE2.out]
          have e1 : takes64 cubeAt (fnz Z) E0 (i + 1) = block64 cubeAt (fun j => fnz Z (128 * i + j)) (takes64 cubeAt (fnz Z) E0 i) := rfl
          rw [e1, ← HE.out]
      have hS0 : Below wr.heap.size wr wr.drew := (Below.refl _ _).drew
      clear HE
      go_wp2
      refine wp_region_noPanic ?_
      refine wp_region_till (fun u => Below wr.heap.size wr u) 6 (by kernel_rfl) (by decide) (by decide +kernel) (by decide +kernel) (by decide +kernel) (fun inv => ?_)
      refine till_at 0 35 (.agg (E.cells).toArray) inv rfl rfl (by decide) (by decide +kernel) (by decide +kernel) (fun _ _ _ h => h) (hS0) (yieldsIf_load_mid (by kernel_rfl) 66 (.tmp 6) rfl (w1.heap.size) 0 rfl E.cells _ (fun u hu => ((HM.out.later hu).holds 0 _ rfl).1) Tryd.underlying66 rfl size70) (fun inv' => ?_)
      clear inv; have inv := inv'; clear inv'
      simp only [List.setIfInBounds_toArray, List.set_cons_zero, List.set_cons_succ]
      refine till_at 1 36 (.slice (some ⟨g, 0, none⟩) L c) inv rfl rfl (by decide) (by decide +kernel) (by decide +kernel) (fun _ _ _ h => h) (hS0) (Or.inl ⟨by rfl, fun w' hS' => by go_simp⟩) (fun inv' => ?_)
      clear inv; have inv := inv'; clear inv'
      simp only [List.setIfInBounds_toArray, List.set_cons_zero, List.set_cons_succ]
      refine till_at 2 37 (.int .i64 (q : Nat)) inv rfl rfl (by decide) (by decide +kernel) (by decide +kernel) (fun _ _ _ h => h) (hS0) (Or.inl ⟨by rfl, fun w' hS' => by go_simp⟩) (fun inv' => ?_)
      clear inv; have inv := inv'; clear inv'
      simp only [List.setIfInBounds_toArray, List.set_cons_zero, List.set_cons_succ]
      refine till_at 3 38 (.int .i64 (q : Nat)) inv rfl rfl (by decide) (by decide +kernel) (by decide +kernel) (fun _ _ _ h => h) (hS0) (Or.inl ⟨by rfl, fun w' hS' => by go_simp⟩) (fun inv' => ?_)
      clear inv; have inv := inv'; clear inv'
      simp only [List.setIfInBounds_toArray, List.set_cons_zero, List.set_cons_succ]
      refine till_at 4 39 (.int .i64 ((q : Int) + 128)) inv rfl rfl (by decide) (by decide +kernel) (by decide +kernel) (fun _ _ _ h => h) (hS0) (Or.inl ⟨by rfl, fun w' hS' => by go_simp⟩) (fun inv' => ?_)
      clear inv; have inv := inv'; clear inv'
      simp only [List.setIfInBounds_toArray, List.set_cons_zero, List.set_cons_succ]
      refine till_at 5 40 (.slice (some ⟨g, q, none⟩) 128 (c - q)) inv rfl rfl (by decide) (by decide +kernel) (by decide +kernel) (fun _ _ _ h => h) (hS0) (Or.inl ⟨by rfl, fun w' hS' => by have q := HSl.out w'; go_simp⟩) (fun inv' => ?_)
      clear inv; have inv := inv'; clear inv'
      simp only [List.setIfInBounds_toArray, List.set_cons_zero, List.set_cons_succ]
      refine till_tail (i := 6) (by decide +kernel) (by decide) rfl (fun K hK => ?_)
      go_simp
      refine (HCall.out _ hS0).mono ?_
      rintro e1 wn ⟨rfl, hwn⟩
      go_wp2_with fail
      refine hK.out _ _ ?_
      clear hK K
      try simp only [List.setIfInBounds_toArray, List.set_cons_zero, List.set_cons_succ]
      refine till_tail (i := 7) (by decide +kernel) (by decide) rfl (fun K hK => ?_)
      rw [if_pos (by rfl)]
      refine wp_store_mid 66 (.tmp 6) (.tmp 41) rfl w1.heap.size 0 (Eight.cells E2).toArray rfl rfl (((HM.out.later hwn).holds 0 _ rfl).2) (size70) (cellsE_one _) ?_
      refine hK.out _ _ ?_
      clear hK K
      try simp only [List.setIfInBounds_toArray, List.set_cons_zero, List.set_cons_succ]
      refine till_done (by decide +kernel) ?_ _
      refine NoPanic.normal ?_
      have hgn : g ≠ w1.heap.size := HGN.out
      have HBn : Hid (Below w.heap.size w (wn.setCells w1.heap.size 0 E2.cells)) := below_setCells _ HN1.out _ _ _ (HBr.out.trans (hwn.mono HBr.out.size))
      have HMn : Hid (Mem w1 (wn.setCells w1.heap.size 0 E2.cells) [E2.cells]) := ((HM.out.later hwn).store 0 rfl E2.cells rfl).congr rfl
      have HCn : Hid (∀ i, i < L → (wn.setCells w1.heap.size 0 E2.cells).cell? ⟨g, 0 + i, none⟩ = some (.int .u8 (fnz Z i))) := fun j hj => by
        rw [World.cell?_setCells_out w1.heap.size E2.cells 0 wn ⟨g, 0 + j, none⟩ (fun e' _ => absurd e' hgn), hwn.cell Hg.out]
        exact HC.out j hj
      have Hgn : Hid (g < (wn.setCells w1.heap.size 0 E2.cells).heap.size) := by
        show g < (wn.setCells w1.heap.size 0 E2.cells).heap.size
        rw [size_setCells]
        exact Nat.lt_of_lt_of_le Hg.out hwn.size
      clear hwn HM HBr HC Hg
      go_wp2
      go_roundw
      case rel =>
        refine ⟨i + 1, (by have := HQ.out; omega : 128 * (i + 1) ≤ L), val_eqD (by have := HQ.out; omega), ?_, HBn, .inr trivial, HCn, Hgn⟩
        rw [← HE2.out]
        exact HMn
      case measure => simp [intOf]; omega
    · have hiL : L = 128 * i := by have := HQ.out; have := hi.out; omega
      have HM5 : Hid (Mem w1 wr [E.cells]) := HM
      have HB5 : Hid (Below w.heap.size w wr) := HBr
      have HEE : Hid (E = endW (wdOf h) (firstE h) 0 zs) := by
        rw [HE.out, hwd, ← endW_laid true, ← HE0.out, ← HZ.out]
        have hL : L = Z.length := HLZ.out
        have e : takes64 cubeAt (fnz Z) E0 i = TT true (fnz Z) E0 (Z.length / bsz true) := by
          rw [← hL, hiL]
          show _ = takes64 cubeAt (fnz Z) E0 (128 * i / 128)
          rw [Nat.mul_div_cancel_left _ (by omega)]
        rw [← e]
        exact rfl
      clear HM HBr HC Hg HE hi hiL
      go_upto_region 13 with fail
      go_wp2
      go_loopw [10, 11] (fun v vi wr => ∃ i l c : Nat, ∃ a : Option Addr, Hid (i ≤ m ∧ l = 8 * i) ∧ vi = .int .i64 i ∧ v = .slice a l c ∧ Hid (wr.ownsRow (w1.heap.size + 1) 5 1 (.slice a l c) l (cellsU8 ((spellL true E).take l))) ∧ Hid (Mem w1 wr [E.cells]) ∧ Hid (Below w.heap.size w wr)) (fun _ vi _ => m - (intOf vi).toNat)
      case atStart => exact ⟨0, 0, 0, none, ⟨Nat.zero_le _, rfl⟩, rfl, rfl, World.ownsRow_nil _ _ _ _, HM5, HB5⟩
      case round =>
        obtain ⟨i, l, c0, a, HI, rfl, rfl, HO6, HM6, HB6⟩ := hrel
        clear HM5 HB5
        by_cases him : i < m
        · have hi8 : i < 8 := by have := hm.out; omega
          have hls : l < szOf h := by have := HI.out; have := hm.out; omega
          have hls' : (l : Int) < (szOf h : Nat) := by omega
          go_wp2_with (go_at_call 43; refine (rsize_ok h k _).mono ?_; rintro e1 wx ⟨rfl, hwx⟩; obtain rfl := hwx.symm)
          go_loopw [10, 12] (fun v vj wr => ∃ q l c : Nat, ∃ a : Option Addr, Hid (q ≤ 8 ∧ l = 8 * i + (8 - q)) ∧ vj = .int .i64 ((q : Int) - 1) ∧ v = .slice a l c ∧ Hid (wr.ownsRow (w1.heap.size + 1) 5 1 (.slice a l c) l (cellsU8 ((spellL true E).take l))) ∧ Hid (Mem w1 wr [E.cells]) ∧ Hid (Below w.heap.size w wr)) (fun _ vj _ => (intOf vj + 1).toNat)
          case atStart => exact ⟨8, l, c0, a, ⟨by omega, by have := HI.out; omega⟩, rfl, rfl, HO6, HM6, HB6⟩
          case round =>
            obtain ⟨q, l2, c2, a2, HL2, rfl, rfl, HO7, HM7, HB7⟩ := hrel
            clear HO6 HM6 HB6
            rcases q with _ | j
            · rw [show ((0 : Nat) : Int) - 1 = -1 from rfl]
              go_wp2
              go_roundw
              case rel => exact ⟨i + 1, l2, c2, a2, ⟨by omega, by have := HL2.out; omega⟩, by go_num, rfl, HO7, HM7, HB7⟩
              case measure => simp [intOf]; omega
            · rw [show ((j + 1 : Nat) : Int) - 1 = (j : Int) by omega]
              have hj : j < 8 := by have := HL2.out; omega
              have hls2 : l2 < szOf h := by have := HL2.out; have := hm.out; omega
              have hls3 : (l2 : Int) < (szOf h : Nat) := by omega
              have hl64 : l2 < 64 := by have := HL2.out; omega
              have hj0 : (0 : Int) ≤ (j : Int) := by omega
              have hw1 : IntKind.i64.wrap (8 * (j : Int)) = 8 * (j : Int) := by rw [IntKind.wrap_i64]; omega
              have hw2 : IntKind.u64.wrap (8 * (j : Int)) = 8 * (j : Int) := by rw [IntKind.wrap_u64]; omega
              have f0 : wr.cell? ⟨w1.heap.size, i, none⟩ = some (.int .u64 (fnz E.list i)) := HM7.out.cell 0 rfl i _ (by rw [cells_Cl]; exact Cl_at _ _ i hi8)
              have hbase : w1.heap.size + 1 ≤ wr.heap.size := HM7.out.size
              go_wp2_with (first
                | (go_at_call 43; refine (rsize_ok h k _).mono ?_; rintro e1 wx ⟨rfl, hwx⟩; obtain rfl := hwx.symm)
                | (at_builtin; go_must (refine wpList_append_own _ rfl (.tmp 62) (.tmp 71) 23 rfl (w1.heap.size + 1) 5 i0 (.int .u8 0) 1 1 Tryd.underlying23 hi hz0 hz1 hz2 rfl (by decide) _ _ _ rfl (HO7.out.alloc _) ⟨wr.heap.size, 0, none⟩ 1 1 [.int .u8 (fnz E.list i / 2 ^ (8 * j) % 256)] rfl rfl (one_cellD _ _ _) (one_one _) (by unfold maxLen; omega) (by omega) (by rw [size_alloc]; omega) ?_)))
              intro v8 w8 hown8 hgrow8 hnil8
              have hb8 : Below (w1.heap.size + 1) wr w8 := ((Below.refl (w1.heap.size + 1) wr).alloc hbase _).grown hgrow8 (by rw [size_alloc]; omega) (fun q hq => (HO7.out.lt q hq).1)
              have HM8 : Hid (Mem w1 w8 [E.cells]) := HM7.out.laterN hb8
              have HB8 : Hid (Below w.heap.size w w8) := HB7.out.trans (hb8.mono (by have := HN1.out; omega))
              have ho8 : w8.ownsRow (w1.heap.size + 1) 5 1 v8 (l2 + 1) (cellsU8 ((spellL true E).take (l2 + 1))) := by
                have e : cellsU8 ((spellL true E).take (l2 + 1)) = cellsU8 ((spellL true E).take l2) ++ [.int .u8 (fnz E.list i / 2 ^ (8 * j) % 256)] := by
                  rw [List.take_add_one, spellL_at _ _ l2 hl64, spell8 E i j l2 (by have := HL2.out; omega) hj hi8]
                  simp [cellsU8]
                rw [e]
                exact hown8
              clear hown8 hgrow8 hnil8 hb8
              obtain ⟨a8, c8, rfl⟩ := owns_slice ho8
              have HO8 : Hid (w8.ownsRow (w1.heap.size + 1) 5 1 (.slice a8 (l2 + 1) c8) (l2 + 1) (cellsU8 ((spellL true E).take (l2 + 1)))) := ho8
              clear ho8 HO7 HM7 HB7
              go_wp2
              go_roundw
              case rel => exact ⟨j, l2 + 1, c8, a8, ⟨by omega, by have := HL2.out; omega⟩, rfl, rfl, HO8, HM8, HB8⟩
              case measure => simp [intOf]
        · have hls : ¬ l < szOf h := by have := HI.out; have := hm.out; omega
          have hls' : ¬ (l : Int) < (szOf h : Nat) := by omega
          go_wp2_with (go_at_call 43; refine (rsize_ok h k _).mono ?_; rintro e1 wx ⟨rfl, hwx⟩; obtain rfl := hwx.symm)
          go_ret
          have hl : l = szOf h := by have := HI.out; have := hm.out; omega
          refine ⟨_, rfl, ?_, HB6.out⟩
          have e : sumD h zs = (spellL true E).take l := by rw [hl, HEE.out, ← hwd]; rfl
          rw [e, ← hl]
          exact owns_base HO6.out (by have := HN1.out; omega)
/-- Sum: the document's digest is the one that the streams make. -/
theorem rsum_ok {h : Int} (k : Known h) (v : Value) (zs : List Int) (w : World) (hT : RTab w) (hv : View w v zs) (hn : zs.length ≤ 140737488351232) :
    Calls Tryd.prog 27 #[.int .i64 h, v] w fun e w' => ∃ v', e = .returned v' ∧ w'.ownsRow w.heap.size 5 1 v' (szOf h) (cellsU8 (sumD h zs)) ∧ Below w.heap.size w w' := by
  rcases k with rfl | rfl | rfl | rfl
  · exact rsum64 224 (.inl rfl) rfl 7 ⟨rfl, by decide⟩ v zs w hT hv hn
  · exact rsum64 256 (.inr (.inl rfl)) rfl 8 ⟨rfl, by decide⟩ v zs w hT hv hn
  · exact rsum128 384 (.inr (.inr (.inl rfl))) rfl 6 ⟨rfl, by decide⟩ v zs w hT hv hn
  · exact rsum128 512 (.inr (.inr (.inr rfl))) rfl 8 ⟨rfl, by decide⟩ v zs w hT hv hn
end Go.Proofs.YtbpkocohddlbhaaDoor
namespace Go.Proofs.YtbpkocohddlbhaaDoor
open Go.RowKit
set_option linter.unusedVariables false
set_option linter.unusedSimpArgs false
set_option maxRecDepth 100000
theorem rw_cells2 {w : World} {g off : Nat} {l : List F} (h : Rw w g off l) : ∀ (j : Nat) (u : Value), (fc l)[j]? = some u → w.cell? ((⟨g, off, none⟩ : Addr).add j) = some u := fun j u hu => by
  have hj : j < l.length := by have := (List.getElem?_eq_some_iff.1 hu).1; rw [fc_len] at this; exact this
  rw [fc_at l j hj] at hu
  injection hu with hu
  rw [← hu, Addr.add_lit]
  exact h j hj
theorem own_zi {w : World} {B : Nat} {v : Value} {n : Nat} {l : List F} (h : w.ownsRow B 5 1 v n (fc l)) (hl : l.length = n) : View w v (zi l) := by
  have q := viewOwns (zs := zi l) (by rw [zi_cells]; exact h) (by rw [zi_len]; exact hl)
  exact q
set_option maxHeartbeats 1600000 in
/-- The reference's row. -/
theorem rrow_ok (sn s b off c : Nat) (b0 b1 : F) (l : List F) (w : World) (hs : Hid (b0.1 * 256 + b1.1 = sn)) (hl : Hid (l.length = s ∧ 1 ≤ s ∧ s ≤ 64)) (hc : Hid (s ≤ c ∧ c ≤ maxLen)) (h : Hid (Rw w b off l)) (hT : Hid (RTab w)) :
    Calls Tryd.prog 17 #[.int .u16 (sn : Nat), .slice (some ⟨b, off, none⟩) s c] w fun e w' => Hid (∃ v, e = .returned v ∧ w'.ownsRow w.heap.size 5 1 v (s + 4) (fc (rowS b0 b1 l)) ∧ Below w.heap.size w w') := by
  obtain ⟨M, HMM⟩ : ∃ M, Hid (w.heap.size = M) := ⟨_, rfl⟩
  obtain ⟨i0, hi, hz0, hz1, hz2⟩ := info_parts Tryd.infoB
  have HI0 : Hid (Tryd.prog.info? 5 = some i0 ∧ i0.zero = some (.int .u8 0) ∧ i0.size = 1 ∧ i0.bytes = 1) := ⟨hi, hz0, hz1, hz2⟩
  clear hi hz0 hz1 hz2
  have hb1 : b1.1 < 256 := b1.2
  have hb0 : b0.1 < 256 := b0.2
  obtain ⟨n1, n2, n3, n4, n5, n6, n7, n8, n9⟩ := set_num b0.1 b1.1 sn 0 0 0 hb0 hb1 hs.out (by omega) (by omega) (by omega)
  have n10 : IntKind.u16.wrap ((b0.1 : Nat) : Int) = ((b0.1 : Nat) : Int) := wraps_u16' _ (by omega) (by omega)
  have n11 : ((b0.1 : Nat) : Int) % 256 = ((b0.1 : Nat) : Int) := by omega
  clear hb0 hb1 n7 n8 n9
  rw [HMM.out]
  go_enter Tryd.func17, Tryd.ntmps17
  go_upto_region 2 with fail
  obtain ⟨w2, hw2⟩ : ∃ u, u = w.alloc (.cells #[.int .u8 (b0.1 : Nat), .int .u8 (b1.1 : Nat)] 5) := ⟨_, rfl⟩
  have H2 : Hid (w2.ownsRow M 5 1 (.slice (some ⟨w.heap.size, 0, none⟩) 2 2) 2 [.int .u8 (b0.1 : Nat), .int .u8 (b1.1 : Nat)] ∧ Below M w w2 ∧ M ≤ w2.heap.size ∧ Rw w2 b off l) := by
    have hb : Below M w w2 := by rw [hw2, ← HMM.out]; exact (Below.refl _ _).alloc (Nat.le_refl _) _
    refine ⟨?_, hb, bel_size hb HMM.out, h.out.below (by rw [HMM.out]; exact hb)⟩
    rw [hw2]
    exact World.ownsRow_lit w #[.int .u8 (b0.1 : Nat), .int .u8 (b1.1 : Nat)] 2 (Nat.le_of_eq HMM.out.symm) (by decide) rfl
  rw [← hw2]
  clear hw2 n10 n11 n1 n2 n3 n4 n5 n6
  have H27 : Hid (∀ u v zs, View u v zs → zs.length ≤ 140737488351232 → Below M w u → Calls Tryd.prog 27 #[.int .i64 256, v] u fun e w' => Hid (∃ v', e = .returned v' ∧ w'.ownsRow u.heap.size 5 1 v' 32 (cellsU8 (sumD 256 zs)) ∧ Below u.heap.size u w')) := fun u v zs hv hn hu => (rsum_ok (.inr (.inl rfl)) v zs u (hT.out.below hu (by rw [← HMM.out]; exact hT.out.size)) hv hn).mono fun e w' hh => hh
  go_upto_region 3 with (first
    | (at_builtin; go_must (refine wpList_append_own _ rfl (.tmp 15) (.tmp 16) 23 rfl M 5 i0 (.int .u8 0) 1 1 Tryd.underlying23 HI0.out.1 HI0.out.2.1 HI0.out.2.2.1 HI0.out.2.2.2 rfl (by decide) _ 2 _ rfl H2.out.1 ⟨b, off, none⟩ s c (fc l) rfl (by rw [fc_len, hl.out.1, Nat.mul_one]) (rw_cells2 H2.out.2.2.2) (fc_one _) (by have := hl.out; unfold maxLen; omega) (by have := hl.out; omega) H2.out.2.2.1 ?_; intro v3 w3 hown hgrow hnil; have H3 : Hid (View w3 v3 (zi ([b0, b1] ++ l)) ∧ Below M w w3) := ⟨own_zi (l := [b0, b1] ++ l) (n := 2 + s) (by rw [fc_apps]; exact hown) (by have := hl.out; simp; omega), H2.out.2.1.grown hgrow H2.out.2.2.1 (fun q hq => (H2.out.1.lt q hq).1)⟩; clear hown hgrow hnil))
    | (go_at_call 27; refine (H27.out _ _ _ H3.out.1 (by rw [zi_len]; have := hl.out; simp; omega) H3.out.2).mono ?_; intro e4 w4 h4; obtain ⟨v4, rfl, h5, h6⟩ := h4.out; have H4 : Hid (w4.ownsRow w3.heap.size 5 1 v4 32 (cellsU8 (sumD 256 (zi ([b0, b1] ++ l)))) ∧ Below M w w4) := ⟨h5, H3.out.2.trans (h6.mono (bel_size H3.out.2 HMM.out))⟩; clear h4 h5 h6)
    | fail)
  obtain ⟨g4, c4, rfl, HG4⟩ : ∃ g c, v4 = .slice (some ⟨g, 0, none⟩) 32 c ∧ Hid (32 ≤ c ∧ c ≤ maxLen ∧ Rw w4 g 0 (ckL b0 b1 l)) := by
    rcases H4.out.1.2 with ⟨_, e⟩ | ⟨g, cap, cur, rfl, hB, hh, h3, h4, h5, h6⟩
    · omega
    · refine ⟨g, cap, rfl, by omega, h4, fun i hi => ?_⟩
      rw [ck_len] at hi
      rw [ck_at b0 b1 l i hi]
      have q := H4.out.1.cells (g := g) rfl i (.int .u8 ((sumD 256 (zi ([b0, b1] ++ l))).getD i 0)) (by
        unfold cellsU8
        rw [List.getElem?_map, List.getD_eq_getElem?_getD, List.getElem?_eq_getElem (by rw [sumD_length 256 (.inr (.inl rfl))]; show i < 32; omega)]
        rfl)
      rw [Addr.add_lit] at q
      exact q
  have H5 : Hid (Below M w w4 ∧ Rw w4 b off l ∧ M ≤ w4.heap.size) := ⟨H4.out.2, h.out.below (by rw [HMM.out]; exact H4.out.2), bel_size H4.out.2 HMM.out⟩
  clear H2 H27 H4
  have HNO : Hid (w4.ownsRow M 5 1 (.slice none 0 0) 0 []) := World.ownsRow_nil _ _ _ _
  have g4a : (4 : Int) ≤ (c4 : Int) := by have := HG4.out.1; omega
  go_upto_region 5 with (first
    | (at_builtin; go_must (refine wpList_append_own _ rfl (.tmp 19) (.tmp 20) 23 rfl M 5 i0 (.int .u8 0) 1 1 Tryd.underlying23 HI0.out.1 HI0.out.2.1 HI0.out.2.2.1 HI0.out.2.2.2 rfl (by decide) _ 0 _ rfl HNO.out ⟨b, off, none⟩ s c (fc l) rfl (by rw [fc_len, hl.out.1, Nat.mul_one]) (rw_cells2 H5.out.2.1) (fc_one _) (by have := hl.out; unfold maxLen; omega) (by have := hl.out; omega) H5.out.2.2 ?_; intro v6 w6 hown hgrow hnil; have H6 : Hid (w6.ownsRow M 5 1 v6 s (fc l) ∧ Below M w w6 ∧ M ≤ w6.heap.size ∧ Rw w6 g4 0 (ckL b0 b1 l)) := ⟨by rw [← Nat.zero_add s]; exact hown, H5.out.1.grown hgrow H5.out.2.2 (fun q hq => (HNO.out.lt q hq).1), Nat.le_trans H5.out.2.2 hgrow.size, HG4.out.2.2.below ⟨hgrow.os, hgrow.tape, hgrow.output, hgrow.size, fun k hk => hgrow.block k hk (by show some k ≠ none; simp)⟩⟩; clear hown hgrow hnil))
    | fail)
  clear H5 HNO
  go_wp2_with (first
    | (at_builtin; go_must (refine wpList_append_own _ rfl (.tmp 22) (.tmp 24) 23 rfl M 5 i0 (.int .u8 0) 1 1 Tryd.underlying23 HI0.out.1 HI0.out.2.1 HI0.out.2.2.1 HI0.out.2.2.2 rfl (by decide) _ s _ rfl H6.out.1 ⟨g4, 0, none⟩ 4 c4 (fc (ckL b0 b1 l)) rfl (by rw [fc_len, ck_len]) (rw_cells H6.out.2.2.2) (fc_one _) (by have := hl.out; unfold maxLen; omega) (by have := hl.out; omega) H6.out.2.2.1 ?_; intro v7 w7 hown hgrow hnil; have H7 : Hid (w7.ownsRow M 5 1 v7 (s + 4) (fc (rowS b0 b1 l)) ∧ Below M w w7) := ⟨by unfold rowS; rw [fc_apps]; exact hown, H6.out.2.1.grown hgrow H6.out.2.2.1 (fun q hq => (H6.out.1.lt q hq).1)⟩; clear hown hgrow hnil))
    | fail)
  go_ret
  exact ⟨v7, rfl, H7.out.1, H7.out.2⟩
end Go.Proofs.YtbpkocohddlbhaaDoor
namespace Go.Proofs.YtbpkocohddlbhaaDoor
open Go.RowKit
set_option linter.unusedVariables false
set_option linter.unusedSimpArgs false
set_option maxRecDepth 100000
theorem full_eq (b0 b1 bn bi bs : F) (s : Nat) (vs : List F) : fullL b0 b1 bn bi bs s vs = b0 :: b1 :: bn :: bi :: bs :: (vs ++ (List.replicate ((9 + s) % 2) 0 ++ codeL (headL b0 b1 bn bi bs s vs))) := by simp [fullL, headL]
theorem full_len (b0 b1 bn bi bs : F) (s : Nat) (vs : List F) (hv : vs.length = s + 4) : (fullL b0 b1 bn bi bs s vs).length = unc s + 4 := by
  rw [full_eq]
  simp [codeL_len, hv, unc]
  omega
theorem full_mid (b0 b1 bn bi bs : F) (s : Nat) (vs : List F) (hv : vs.length = s + 4) : ((fullL b0 b1 bn bi bs s vs).drop 5).take (s + 4) = vs := by
  rw [full_eq]
  show (vs ++ _).take (s + 4) = vs
  rw [← hv, List.take_left']
  rfl
theorem full_okF (b0 b1 bn bi bs : F) (s : Nat) (vs : List F) (hv : vs.length = s + 4) (hs : bs.1 = s) (h1 : 1 ≤ s ∧ s ≤ 64) (h2 : 1 ≤ bn.1 ∧ bn.1 ≤ 16) (h3 : 1 ≤ bi.1) : okF (fullL b0 b1 bn bi bs s vs) := by
  have e2 : (fullL b0 b1 bn bi bs s vs).getD 2 0 = bn := by rw [full_eq]; rfl
  have e3 : (fullL b0 b1 bn bi bs s vs).getD 3 0 = bi := by rw [full_eq]; rfl
  have e4 : (fullL b0 b1 bn bi bs s vs).getD 4 0 = bs := by rw [full_eq]; rfl
  unfold okF
  rw [e2, e3, e4, hs]
  refine ⟨h2, h3, h1, full_len _ _ _ _ _ _ _ hv, fun j hj => ?_⟩
  rw [full_eq, show 9 + s + j = (s + 4 + j) + 5 by omega]
  simp only [List.getD_cons_succ]
  rw [List.getD_eq_getElem?_getD, List.getElem?_append_right (by omega), List.getElem?_append_left (by simp; omega), List.getElem?_replicate, if_pos (by omega)]
  rfl
theorem full_zero (b0 b1 bn bi bs : F) (s : Nat) (vs : List F) : sumL (fullL b0 b1 bn bi bs s vs) = [0, 0, 0, 0] := code_zero _
theorem full_tds (b0 b1 bn bi bs : F) (s : Nat) (vs : List F) : tds (fullL b0 b1 bn bi bs s vs) = [.int .u16 ((b0.1 * 256 + b1.1 : Nat) : Int), .int .i64 (bn.1 : Nat), .int .i64 (bi.1 : Nat), .int .i64 (bs.1 : Nat)] := by
  have e0 : (fullL b0 b1 bn bi bs s vs).getD 0 0 = b0 := by rw [full_eq]; rfl
  have e1 : (fullL b0 b1 bn bi bs s vs).getD 1 0 = b1 := by rw [full_eq]; rfl
  have e2 : (fullL b0 b1 bn bi bs s vs).getD 2 0 = bn := by rw [full_eq]; rfl
  have e3 : (fullL b0 b1 bn bi bs s vs).getD 3 0 = bi := by rw [full_eq]; rfl
  have e4 : (fullL b0 b1 bn bi bs s vs).getD 4 0 = bs := by rw [full_eq]; rfl
  unfold tds setN
  rw [e0, e1, e2, e3, e4]
/-- The reference's Bytes of a share. -/
theorem rbytes_ok (sn nd ix s n N g c : Nat) (b0 b1 bn bi bs : F) (vs : List F) (w : World) (hs : Hid (b0.1 * 256 + b1.1 = sn)) (hbn : Hid (bn.1 = nd ∧ 1 ≤ nd ∧ nd ≤ 16)) (hbi : Hid (bi.1 = ix ∧ 1 ≤ ix)) (hbs : Hid (bs.1 = s ∧ 1 ≤ s ∧ s ≤ 64)) (hn : Hid (n = s + 4 ∧ N = unc s + 4 ∧ vs.length = n)) (h : Rx w g vs) :
    Calls Tryd.prog 20 #[.agg #[.int .u16 (sn : Nat), .int .i64 (nd : Nat), .int .i64 (ix : Nat), .int .i64 (s : Nat)], .slice (some ⟨g, 0, none⟩) n c] w fun e w' => Hid (∃ g9 c9, e = .returned (.slice (some ⟨g9, 0, none⟩) N c9) ∧ (N ≤ c9 ∧ c9 ≤ 9223372036854775807) ∧ Rx w' g9 (fullL b0 b1 bn bi bs s vs) ∧ Below w.heap.size w w') := by
  have hv : vs.length = s + 4 := hn.out.2.2.trans hn.out.1
  have e4 : ((fullL b0 b1 bn bi bs s vs).getD 4 0).1 = s := by rw [full_eq]; exact hbs.out.1
  have q := bytes_ok g c (fullL b0 b1 bn bi bs s vs) w (full_okF _ _ _ _ _ _ _ hv hbs.out.1 hbs.out.2 (by rw [hbn.out.1]; exact hbn.out.2) (by rw [hbi.out.1]; exact hbi.out.2)) (full_zero _ _ _ _ _ _ _) (by rw [e4, full_mid _ _ _ _ _ _ _ hv]; exact h)
  rw [e4, full_tds, full_len _ _ _ _ _ _ _ hv, hs.out, hbn.out.1, hbi.out.1, hbs.out.1, ← hn.out.1, ← hn.out.2.1] at q
  exact q
theorem rx_len {w : World} {g : Nat} {l : List F} (h : Rx w g l) : ∃ sp, Bx w g 5 (fc l ++ sp) := h
/-- The values as far as number i. -/
def vals (R row : List F) (n nd : Nat) (x : F) (i : Nat) : List F := (List.range i).map fun q => pv x (cfL R row n nd q)
theorem vals_succ (R row : List F) (n nd : Nat) (x : F) (i : Nat) : vals R row n nd x (i + 1) = vals R row n nd x i ++ [pv x (cfL R row n nd i)] := by simp [vals, List.range_succ]
theorem vals_len (R row : List F) (n nd : Nat) (x : F) (i : Nat) : (vals R row n nd x i).length = i := by simp [vals]
theorem vals_all (R row : List F) (n nd : Nat) (x : F) : vals R row n nd x n = valsL R row n nd x := rfl
theorem rx_apart {u v : World} {rv : Value} {M t2 n : Nat} {xs : List Value} {b : Nat} {l : List F} (ho : u.ownsRow M t2 1 rv n xs) (hg : u.grownBy v rv.ownBlock) (ht : 5 ≠ t2) (hb : Rx u b l) : Rx v b l := by
  obtain ⟨sp, h⟩ := hb
  exact ⟨sp, bx_apart ho hg ht h⟩
end Go.Proofs.YtbpkocohddlbhaaDoor
