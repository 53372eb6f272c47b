import Derived.Test.YtioggmjocelolaaBack2
import Derived.Test.YtioggmjocelolaaFromHex
import Derived.Test.YtioggmjocelolaaFromB64
import Derived.Test.YtioggmjocelolaaB64
namespace Go.Proofs.Ytioggmjocelolaa
open Go.RowKit

theorem least (P : Nat → Prop) [DecidablePred P] : ∀ n, (∃ j, j < n ∧ ¬ P j) → ∃ p, p < n ∧ (∀ j, j < p → P j) ∧ ¬ P p
  | 0, h => by obtain ⟨j, h, _⟩ := h; omega
  | n + 1, h => by
    by_cases hn : ∃ j, j < n ∧ ¬ P j
    · obtain ⟨p, h1, h2, h3⟩ := least P n hn
      exact ⟨p, by omega, h2, h3⟩
    · obtain ⟨j, hj, hp⟩ := h
      have hjn : j = n := by
        by_cases e : j < n
        · exact absurd ⟨j, e, hp⟩ hn
        · omega
      subst hjn
      refine ⟨j, by omega, fun i hi => ?_, hp⟩
      by_cases hpi : P i
      · exact hpi
      · exact absurd ⟨i, hi, hpi⟩ hn

theorem view_of_own {B n : Nat} {w : World} {v : Value} {zs : List Int} (h : w.ownsRow B 5 1 v n (cellsU8 zs)) : View w v zs ∧ zs.length = n := by
  have hl : zs.length = n := by have := h.1; rw [cellsU8_length] at this; omega
  refine ⟨?_, hl⟩
  rcases h.2 with ⟨rfl, h0⟩ | ⟨g, c, cur, rfl, hg1, hg2, hg3, hg4, hg5, hg6⟩
  · have hz : zs = [] := List.eq_nil_of_length_eq_zero (by omega)
    subst hz
    exact ⟨none, 0, rfl, Nat.le_refl _, by simp, fun _ => rfl, .inl rfl⟩
  · subst hl
    refine ⟨_, c, rfl, hg3, hg4, (fun h => by cases h), .inr ⟨g, 0, rfl, fun i hi => ?_⟩⟩
    have hc := h.cells (g := g) rfl i (.int .u8 (zs.getD i 0)) (by simp [cellsU8, List.getD, List.getElem?_eq_getElem hi])
    rw [Addr.add_lit] at hc
    exact hc

theorem nums_bytes (s : ByteArray) : Bytes (nums s) := by
  intro c hc
  simp only [nums, List.mem_map] at hc
  obtain ⟨b, _, rfl⟩ := hc
  have := b.toNat_lt
  omega
theorem mem_getD {l : List Int} {P : Int → Prop} (h : ∀ c ∈ l, P c) (j : Nat) (hj : j < l.length) : P (l.getD j 0) := by
  rw [List.getD_eq_getElem?_getD, List.getElem?_eq_getElem hj]
  exact h _ (List.getElem_mem hj)
theorem getD_mem {l : List Int} {P : Int → Prop} (h : ∀ j, j < l.length → P (l.getD j 0)) : ∀ c ∈ l, P c := by
  intro c hc
  obtain ⟨j, hj, rfl⟩ := List.getElem_of_mem hc
  have := h j hj
  rwa [List.getD_eq_getElem?_getD, List.getElem?_eq_getElem hj] at this
theorem allBytes_of {l : List Int} (h : Bytes l) : AllBytes l := by
  intro i
  by_cases hi : i < l.length
  · exact mem_getD h i hi
  · rw [List.getD_eq_getElem?_getD, List.getElem?_eq_none (by omega)]
    simp
theorem bytes_of {l : List Int} (h : AllBytes l) : Bytes l := getD_mem (P := fun c => 0 ≤ c ∧ c < 256) fun j _ => h j

def HexGood (s : ByteArray) : Prop := (∀ c ∈ nums s, 0 ≤ hexV c) ∧ s.size % 2 = 0
theorem fromHex_good (s : ByteArray) (w : World) (hn : s.size ≤ 200000) (hg : HexGood s) :
    Calls Try.prog 13 #[.string s] w fun e w' => ∃ v, e = .returned (.tuple #[v, .int .i64 0, .int .i64 0]) ∧ w'.ownsRow w.heap.size 5 1 v (s.size / 2) (cellsU8 (unhex (nums s))) ∧ Below w.heap.size w w' :=
  fromHex_core s s.size w rfl hn (fun j hj => mem_getD (P := fun c => 0 ≤ hexV c) hg.1 j (by rw [nums_length]; exact hj)) (s.size / 2) (by have := hg.2; show s.size = _; omega)
theorem fromHex_bad (s : ByteArray) (w : World) (hn : s.size ≤ 200000) (hg : ¬ HexGood s) :
    Calls Try.prog 13 #[.string s] w fun e w' => ∃ p : Nat, p ≤ s.size ∧ e = .returned (.tuple #[.slice none 0 0, .int .i64 13, .int .i64 p]) ∧ w' = w := by
  by_cases ha : ∀ j, j < s.size → 0 ≤ hexV ((nums s).getD j 0)
  · have hodd : s.size % 2 = 1 := by
      have : ¬ s.size % 2 = 0 := fun h => hg ⟨getD_mem (P := fun c => 0 ≤ hexV c) (fun j hj => ha j (by rw [nums_length] at hj; exact hj)), h⟩
      omega
    refine (fromHex_odd s s.size w rfl hn ha hodd).mono ?_
    rintro e w' ⟨rfl, rfl⟩
    exact ⟨s.size, Nat.le_refl _, rfl, rfl⟩
  · obtain ⟨p, h1, h2, h3⟩ := least (fun j => 0 ≤ hexV ((nums s).getD j 0)) s.size (by
      by_cases h : ∃ j, j < s.size ∧ ¬ 0 ≤ hexV ((nums s).getD j 0)
      · exact h
      · exact absurd (fun j hj => by by_cases hp : 0 ≤ hexV ((nums s).getD j 0); exact hp; exact absurd ⟨j, hj, hp⟩ h) ha)
    refine (fromHex_fault s s.size p w rfl hn h1 h2 (by show hexV _ < 0; omega)).mono ?_
    rintro e w' ⟨rfl, rfl⟩
    exact ⟨p, by omega, rfl, rfl⟩

def B64Good (s : ByteArray) : Prop := (∀ j, j < s.size → mf (nums s) j = true) ∧ s.size % 4 = 0
theorem fromB64_good (s : ByteArray) (w : World) (hn : s.size ≤ 200000) (hg : B64Good s) :
    Calls Try.prog 14 #[.string s] w fun e w' => ∃ v, e = .returned (.tuple #[v, .int .i64 0, .int .i64 0]) ∧ w'.ownsRow w.heap.size 5 1 v (unb64 (nums s)).length (cellsU8 (unb64 (nums s))) ∧ Below w.heap.size w w' := by
  have h4 : s.size = 4 * (s.size / 4) := by have := hg.2; omega
  have h := fromB64_core s s.size (s.size / 4) w rfl hn hg.1 h4
  rw [unq_eq (s.size / 4) (nums s) (by rw [nums_length]; exact h4)] at h
  exact h
theorem fromB64_bad (s : ByteArray) (w : World) (hn : s.size ≤ 200000) (hg : ¬ B64Good s) :
    Calls Try.prog 14 #[.string s] w fun e w' => ∃ p : Nat, p ≤ s.size ∧ e = .returned (.tuple #[.slice none 0 0, .int .i64 14, .int .i64 p]) ∧ w' = w := by
  by_cases ha : ∀ j, j < s.size → mf (nums s) j = true
  · have hodd : s.size % 4 ≠ 0 := fun h => hg ⟨ha, h⟩
    refine (fromB64_odd s s.size w rfl hn ha hodd).mono ?_
    rintro e w' ⟨rfl, rfl⟩
    exact ⟨s.size, Nat.le_refl _, rfl, rfl⟩
  · obtain ⟨p, h1, h2, h3⟩ := least (fun j => mf (nums s) j = true) s.size (by
      by_cases h : ∃ j, j < s.size ∧ ¬ mf (nums s) j = true
      · exact h
      · exact absurd (fun j hj => by by_cases hp : mf (nums s) j = true; exact hp; exact absurd ⟨j, hj, hp⟩ h) ha)
    refine (fromB64_fault s s.size p w rfl hn h1 h2 (Bool.eq_false_iff.2 h3)).mono ?_
    rintro e w' ⟨rfl, rfl⟩
    exact ⟨p, by omega, rfl, rfl⟩

set_option maxHeartbeats 800000 in
theorem b64_zero (a : Option Addr) (cap : Nat) (w : World) :
    Calls Try.prog 12 #[.slice a 0 cap] w fun e w' => e = .returned (.string ByteArray.empty) ∧ Below w.heap.size w w' := by
  obtain ⟨i0, hi, hz0, hz1, hz2⟩ := info_parts Try.info5
  go_enter Try.func12, Try.ntmps12
  go_wp2_with (first
    | (at_make; go_must (refine wpList_make_own _ rfl _ _ 22 rfl w.heap.size 5 i0 (.int .u8 0) 1 Try.underlying22 hi hz0 hz1 .i64 .i64 0 0 rfl rfl ?_ ?_ ?_ ?_ ?_)))
  · simp
  · rw [hz2]; omega
  · unfold maxLen; omega
  · omega
  intro w1 hown hgrow
  have HB : Hid (Below w.heap.size w w1) := (Below.refl _ _).grown hgrow (Nat.le_refl _) (by intro k hk; cases hk)
  clear hgrow
  go_wp2
  go_loop [0, 3, 4] (fun bv v _ => bv = .slice a 0 cap ∧ v = .slice (some ⟨w.heap.size, 0, none⟩) 0 0) (fun _ _ _ => 0)
  case atStart => exact ⟨rfl, rfl⟩
  case round =>
    obtain ⟨rfl, rfl⟩ := hrel
    have hbk := back_any w1 0 w.heap.size _ [] rfl hown
    rw [strOfNums_nil] at hbk
    clear hown
    go_wp2
    go_ret
    exact ⟨rfl, HB⟩

/-- digest.Base64. -/
theorem b64_any (v : Value) (xs : List Int) (w : World) (hn : xs.length ≤ 65536) (ax : AllBytes xs) (h : View w v xs) :
    Calls Try.prog 12 #[v] w fun e w' => e = .returned (.string (strOfNums (b64 xs))) ∧ Below w.heap.size w w' := by
  obtain ⟨a, c, rfl, h1, h2, h3, h4⟩ := h
  rcases h4 with rfl | ⟨b, off, rfl, hc⟩
  · exact b64_zero a c w
  · exact b64_core b off xs.length c xs w rfl hn h1 (by unfold maxLen at h2; omega) ax hc

/-- What is written of bytes is read as them. -/
theorem hexGood_hex (xs : List Int) (ax : AllBytes xs) : HexGood (strOfNums (hexBytes xs)) ∧ nums (strOfNums (hexBytes xs)) = hexBytes xs := by
  have hd := hexBytes_digits xs (bytes_of ax)
  have hn : nums (strOfNums (hexBytes xs)) = hexBytes xs := nums_strOfNums _ fun c hc => (hd c hc).2
  refine ⟨⟨fun c hc => ?_, ?_⟩, hn⟩
  · rw [hn] at hc
    exact (hd c hc).1
  · rw [strOfNums_size, hexBytes_length]
    omega
theorem b64Good_b64 (xs : List Int) (ax : AllBytes xs) : B64Good (strOfNums (b64 xs)) ∧ nums (strOfNums (b64 xs)) = b64 xs := by
  have hbx := bytes_of ax
  have hb : ∀ c ∈ b64 xs, 0 ≤ c ∧ c < 256 := by
    refine getD_mem (P := fun c => 0 ≤ c ∧ c < 256) fun j hj => ?_
    rw [b64_length xs.length xs (Nat.le_refl _)] at hj
    obtain ⟨k, r, hr, rfl⟩ : ∃ k r, r < 4 ∧ j = 4 * k + r := ⟨j / 4, j % 4, by omega, by omega⟩
    have hk : 3 * k < xs.length := by omega
    rw [getD_drop, b64_drop k xs (by omega)]
    match hys : xs.drop (3 * k), bytes_drop hbx (3 * k) with
    | [], _ =>
      have := congrArg List.length hys
      simp at this
      omega
    | [a], h =>
      have ha := h a (by simp)
      have e1 := (letV_of (a / 4).toNat (by omega)).2.2
      have e2 := (letV_of (a % 4 * 16).toNat (by omega)).2.2
      have : r = 0 ∨ r = 1 ∨ r = 2 ∨ r = 3 := by omega
      rcases this with rfl | rfl | rfl | rfl <;> simp [b64] <;> assumption
    | [a, b], h =>
      have ha := h a (by simp)
      have hb := h b (by simp)
      have e1 := (letV_of (a / 4).toNat (by omega)).2.2
      have e2 := (letV_of (a % 4 * 16 + b / 16).toNat (by omega)).2.2
      have e3 := (letV_of (b % 16 * 4).toNat (by omega)).2.2
      have : r = 0 ∨ r = 1 ∨ r = 2 ∨ r = 3 := by omega
      rcases this with rfl | rfl | rfl | rfl <;> simp [b64] <;> assumption
    | a :: b :: c :: t, h =>
      have ha := h a (by simp)
      have hb := h b (by simp)
      have hc := h c (by simp)
      have e1 := (letV_of ((a * 65536 + b * 256 + c) / 262144).toNat (by omega)).2.2
      have e2 := (letV_of ((a * 65536 + b * 256 + c) / 4096 % 64).toNat (by omega)).2.2
      have e3 := (letV_of ((a * 65536 + b * 256 + c) / 64 % 64).toNat (by omega)).2.2
      have e4 := (letV_of ((a * 65536 + b * 256 + c) % 64).toNat (by omega)).2.2
      have : r = 0 ∨ r = 1 ∨ r = 2 ∨ r = 3 := by omega
      rcases this with rfl | rfl | rfl | rfl <;> simp [b64, grp] <;> assumption
  have hn : nums (strOfNums (b64 xs)) = b64 xs := nums_strOfNums _ hb
  refine ⟨⟨fun j hj => ?_, ?_⟩, hn⟩
  · rw [hn]
    rw [strOfNums_size] at hj
    exact mf_b64 xs hbx j hj
  · rw [strOfNums_size, b64_length xs.length xs (Nat.le_refl _)]
    omega
end Go.Proofs.Ytioggmjocelolaa
