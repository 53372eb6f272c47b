import Derived.Test.YtioggmjocelolaaHexV
namespace Go.Proofs.Ytioggmjocelolaa
open Go.RowKit

set_option maxHeartbeats 800000 in
set_option maxRecDepth 100000 in
theorem fromHex_fault (s : ByteArray) (n p : Nat) (w : World) (hs : Hid (s.size = n)) (hn : n ≤ 200000) (hpn : p < n) (hnone : Hid (∀ j, j < p → 0 ≤ hexV ((nums s).getD j 0))) (hbad : Hid (hexV ((nums s).getD p 0) < 0)) :
    Calls Try.prog 13 #[.string s] w fun e w' => e = .returned (.tuple #[.slice none 0 0, .int .i64 13, .int .i64 p]) ∧ w' = w := by
  have hsz : s.size = n := hs.out
  have h8 : decide ((16777216 : Int) < (n : Int)) = false := by simp; omega
  go_enter Try.func13, Try.ntmps13
  go_wp2
  go_loop [5, 13] (fun _ i => ∃ k : Nat, k ≤ p ∧ i = .int .i64 k) (fun _ i => n - (intOf i).toNat)
  case atStart => exact ⟨0, Nat.zero_le _, rfl⟩
  case round =>
    obtain ⟨k, hk, rfl⟩ := hrel
    have hlt : k < n := by omega
    have hks : k < s.size := by omega
    obtain ⟨c, hc⟩ : ∃ c : Int, c = (nums s).getD k 0 := ⟨_, rfl⟩
    have hr := nums_range s k
    rw [← hc] at hr
    have hcs : ((s[k]'hks).toNat : Int) = c := by rw [hc, nums_at s k hks]
    have HC : Hid (c = (nums s).getD k 0) := hc
    clear hc
    by_cases hkp : k < p
    · have hp : 0 ≤ hexV c := by rw [HC.out]; exact hnone.out k hkp
      have hpb : decide (hexV c < 0) = false := by simp; omega
      go_wp2_with fail
      refine (hexValue_any c _ (by omega) (by omega)).mono ?_
      rintro e w1 ⟨rfl, rfl⟩
      go_wp2
      go_round
      case rel => exact ⟨k + 1, by omega, by go_num⟩
      case measure => simp [intOf]; omega
    · obtain rfl : k = p := by omega
      have hpb : decide (hexV c < 0) = true := by simp; rw [HC.out]; exact hbad.out
      go_wp2_with fail
      refine (hexValue_any c _ (by omega) (by omega)).mono ?_
      rintro e w1 ⟨rfl, rfl⟩
      go_wp2
      go_ret3
      exact ⟨rfl, rfl⟩

set_option maxHeartbeats 800000 in
set_option maxRecDepth 100000 in
theorem fromHex_odd (s : ByteArray) (n : Nat) (w : World) (hs : Hid (s.size = n)) (hn : n ≤ 200000) (hnone : Hid (∀ j, j < n → 0 ≤ hexV ((nums s).getD j 0))) (hm : Hid (n % 2 = 1)) :
    Calls Try.prog 13 #[.string s] w fun e w' => e = .returned (.tuple #[.slice none 0 0, .int .i64 13, .int .i64 n]) ∧ w' = w := by
  have hsz : s.size = n := hs.out
  have h8 : decide ((16777216 : Int) < (n : Int)) = false := by simp; omega
  have hpar : ((n : Int) % 2 != 0) = true := by have := hm.out; simp; omega
  go_enter Try.func13, Try.ntmps13
  go_wp2
  go_loop [5, 13] (fun _ i => ∃ k : Nat, k ≤ n ∧ i = .int .i64 k) (fun _ i => n - (intOf i).toNat)
  case atStart => exact ⟨0, Nat.zero_le _, rfl⟩
  case round =>
    obtain ⟨k, hk, rfl⟩ := hrel
    by_cases hlt : k < n
    · have hks : k < s.size := by omega
      obtain ⟨c, hc⟩ : ∃ c : Int, c = (nums s).getD k 0 := ⟨_, rfl⟩
      have hr := nums_range s k
      have hp := hnone.out k hlt
      rw [← hc] at hr hp
      have hcs : ((s[k]'hks).toNat : Int) = c := by rw [hc, nums_at s k hks]
      have hpb : decide (hexV c < 0) = false := by simp; omega
      clear hc
      go_wp2_with fail
      refine (hexValue_any c _ (by omega) (by omega)).mono ?_
      rintro e w1 ⟨rfl, rfl⟩
      go_wp2
      go_round
      case rel => exact ⟨k + 1, by omega, by go_num⟩
      case measure => simp [intOf]; omega
    · obtain rfl : k = n := by omega
      clear hlt hk
      go_wp2
      go_ret3
      exact ⟨rfl, rfl⟩

/-- small: a capital hexadecimal digit made small. -/
def lowC (c : Int) : Int := if 65 ≤ c ∧ c ≤ 70 then c + 32 else c

theorem news_one (w : World) (z : Int) (t : TypeId) : ∀ j u, (cellsU8 [z])[j]? = some u → (w.alloc (.cells #[Value.int .u8 z] t)).cell? ((⟨w.heap.size, 0, none⟩ : Addr).add j) = some u := by
  intro j u hj
  have h := World.news_of_block (heap_alloc_new w (.cells #[Value.int .u8 z] t)) j u
  exact h (by simpa [cellsU8] using hj)

set_option maxHeartbeats 800000 in
set_option maxRecDepth 100000 in
theorem small_any (s : ByteArray) (n : Nat) (w : World) (hs : Hid (s.size = n)) (hn : n ≤ 200000) :
    Calls Try.prog 16 #[.string s] w fun e w' => e = .returned (.string (strOfNums ((nums s).map lowC))) ∧ Below w.heap.size w w' := by
  obtain ⟨i0, hi, hz0, hz1, hz2⟩ := info_parts Try.info5
  have hsz : s.size = n := hs.out
  go_enter Try.func16, Try.ntmps16
  go_wp2
  go_loopw [3, 4, 5] (fun v i _ wr => ∃ k : Nat, k ≤ n ∧ i = .int .i64 k ∧ wr.ownsRow w.heap.size 5 1 v k (cellsU8 (((nums s).map lowC).take k)) ∧ Hid (Below w.heap.size w wr)) (fun _ i _ _ => n - (intOf i).toNat)
  case atStart => exact ⟨0, Nat.zero_le _, rfl, World.ownsRow_nil _ _ _ _, Below.refl _ _⟩
  case round =>
    obtain ⟨k, hk, rfl, hown2, HB2⟩ := hrel
    by_cases hlt : k < n
    · have hks : k < s.size := by omega
      obtain ⟨c, hc⟩ : ∃ c : Int, c = (nums s).getD k 0 := ⟨_, rfl⟩
      have hr := nums_range s k
      rw [← hc] at hr
      have hcs : ((s[k]'hks).toNat : Int) = c := by rw [hc, nums_at s k hks]
      have htk : ((nums s).map lowC).take (k + 1) = ((nums s).map lowC).take k ++ [lowC c] := by
        rw [take_snoc _ k (by rw [List.length_map, nums_length]; exact hks), hc]
        congr 2
        simp [List.getD, List.getElem?_eq_getElem (show k < (nums s).length by rw [nums_length]; exact hks)]
      have HTK : Hid (((nums s).map lowC).take (k + 1) = ((nums s).map lowC).take k ++ [lowC c]) := htk
      clear hc htk
      have fin : ∀ d : Int, d = lowC c → ∀ (v2 : Value) (w2 : World), w2.ownsRow w.heap.size 5 1 v2 (k + 1) (cellsU8 (((nums s).map lowC).take k) ++ [.int .u8 d]) → w2.ownsRow w.heap.size 5 1 v2 (k + 1) (cellsU8 (((nums s).map lowC).take (k + 1))) := by
        intro d hd v2 w2 h
        rw [HTK.out, cellsU8_append, ← hd]
        exact h
      have FIN : Hid (∀ d : Int, d = lowC c → ∀ (v2 : Value) (w2 : World), w2.ownsRow w.heap.size 5 1 v2 (k + 1) (cellsU8 (((nums s).map lowC).take k) ++ [.int .u8 d]) → w2.ownsRow w.heap.size 5 1 v2 (k + 1) (cellsU8 (((nums s).map lowC).take (k + 1)))) := fin
      clear fin
      by_cases hcap : 65 ≤ c ∧ c ≤ 70
      · obtain ⟨ha, hb⟩ := hcap
        go_wp2_with (first
          | (at_builtin; go_must (refine wpList_append_own _ rfl (.tmp 23) (.tmp 25) 22 rfl w.heap.size 5 i0 (.int .u8 0) 1 1 Try.underlying22 hi hz0 hz1 hz2 rfl (by decide) _ _ _ rfl (hown2.alloc _) ⟨wr.heap.size, 0, none⟩ 1 1 (cellsU8 [c + 32]) rfl rfl (news_one wr _ _) (cellsU8_one _) (by unfold maxLen; omega) (by omega) (by have := HB2.out.size; simp; omega) ?_)))
        intro v2 w2 hown3 hgrow2 hnil2
        have HB3 : Hid (Below w.heap.size w w2) := (HB2.out.alloc HB2.out.size _).grown hgrow2 (by have := HB2.out.size; simp; omega) (fun q hq => (hown2.lt q hq).1)
        have HO3 : Hid (w2.ownsRow w.heap.size 5 1 v2 (k + 1) (cellsU8 (((nums s).map lowC).take (k + 1)))) := FIN.out (c + 32) (by unfold lowC; rw [if_pos ⟨ha, hb⟩]) v2 w2 hown3
        clear hown3 hgrow2 hnil2 hown2 HB2
        go_wp2
        go_roundw
        case rel => exact ⟨k + 1, by omega, by go_num, HO3, HB3⟩
        case measure => simp [intOf]; omega
      · have hcase : c < 65 ∨ 70 < c := by omega
        rcases hcase with ha | ha
        all_goals
          go_wp2_with (first
            | (at_builtin; go_must (refine wpList_append_own _ rfl (.tmp 23) (.tmp 25) 22 rfl w.heap.size 5 i0 (.int .u8 0) 1 1 Try.underlying22 hi hz0 hz1 hz2 rfl (by decide) _ _ _ rfl (hown2.alloc _) ⟨wr.heap.size, 0, none⟩ 1 1 (cellsU8 [c]) rfl rfl (news_one wr _ _) (cellsU8_one _) (by unfold maxLen; omega) (by omega) (by have := HB2.out.size; simp; omega) ?_)))
          intro v2 w2 hown3 hgrow2 hnil2
          have HB3 : Hid (Below w.heap.size w w2) := (HB2.out.alloc HB2.out.size _).grown hgrow2 (by have := HB2.out.size; simp; omega) (fun q hq => (hown2.lt q hq).1)
          have HO3 : Hid (w2.ownsRow w.heap.size 5 1 v2 (k + 1) (cellsU8 (((nums s).map lowC).take (k + 1)))) := FIN.out c (by unfold lowC; rw [if_neg (by omega)]) v2 w2 hown3
          clear hown3 hgrow2 hnil2 hown2 HB2
          go_wp2
          go_roundw
          case rel => exact ⟨k + 1, by omega, by go_num, HO3, HB3⟩
          case measure => simp [intOf]; omega
    · obtain rfl : k = n := by omega
      have hl : ((nums s).map lowC).length = k := by rw [List.length_map, nums_length]; exact hsz
      rw [List.take_of_length_le (by omega)] at hown2
      have hback : ∀ dst, Try.prog.underlying dst = some .string → (convert 22 dst u3).run Try.prog wr = .ok (.string (strOfNums ((nums s).map lowC))) wr := by
        rcases hown2.2 with ⟨rfl, h0⟩ | ⟨g, c, cur, rfl, hg1, hg2, hg3, hg4, hg5, hg6⟩
        · have hnil : (nums s).map lowC = [] := List.eq_nil_of_length_eq_zero (by omega)
          rw [hnil, strOfNums_nil]
          exact run_convert_bytes_nil wr 22 5 Try.underlying22 Try.underlying5 0 0
        · refine run_convert_bytes_arg wr 22 5 Try.underlying22 Try.underlying5 g 0 k c _ hl (fun i hi => ?_)
          have hc := hown2.cells (g := g) rfl i (.int .u8 (((nums s).map lowC).getD i 0)) (by simp only [cellsU8, List.getElem?_map]; rw [List.getElem?_eq_getElem (show i < (nums s).length by rw [nums_length]; omega)]; simp [List.getD, List.getElem?_eq_getElem (show i < (nums s).length by rw [nums_length]; omega)])
          rw [Addr.add_lit] at hc
          simpa using hc
      have hbk := hback 9 Try.underlying9
      clear hback hown2 hl hlt hk
      go_wp2
      go_ret
      exact ⟨rfl, HB2⟩
end Go.Proofs.Ytioggmjocelolaa
