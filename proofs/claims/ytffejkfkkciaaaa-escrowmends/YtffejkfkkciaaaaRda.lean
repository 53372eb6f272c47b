import Derived.Test.YtffejkfkkciaaaaWsp
import Derived.Test.YtffejkfkkciaaaaEcl
import Derived.Test.YtffejkfkkciaaaaNum
import Derived.Laws.Externs
import Derived.Lib.Bytealg
import Derived.WalkKit
namespace Go.Proofs.Ytffejkfkkciaaaa
open Go.RowKit
set_option linter.unusedVariables false
set_option linter.unusedSimpArgs false
/-- A letter's place as the library says it. -/
def plc (L : List Nat) (c : Nat) : Int := if idxN L c < L.length then (idxN L c : Nat) else -1
def conB : ByteArray := ⟨#[98, 100, 102, 103, 104, 106, 107, 108, 109, 110, 112, 114, 115, 116, 118, 122]⟩
def vowB : ByteArray := ⟨#[97, 105, 111, 117]⟩
theorem plc_con : ∀ c : Fin 256, Lib.indexByte conB.data.toList ((c.1 : Int).toNat.toUInt8) = plc conL c.1 := by decide +kernel
theorem plc_vow : ∀ c : Fin 256, Lib.indexByte vowB.data.toList ((c.1 : Int).toNat.toUInt8) = plc vowL c.1 := by decide +kernel
theorem index_any (s : ByteArray) (c : Int) (w : World) : Calls Try.prog 50 #[.string s, .int .u8 c] w fun e w' => e = .returned (.int .i64 (Lib.indexByte s.data.toList c.toNat.toUInt8)) ∧ w' = w := by
  go_enter Try.func50, Try.ntmps50
  go_wp2
  rw [run_callFunc_extern (e := Extern.BytealgIndexByte.indexByte) (fn := Try.f59) (by kernel_rfl) (by kernel_rfl) (by kernel_rfl) (by kernel_rfl) (by kernel_rfl), Lib.run_indexByteString]
  simp only [Result.andThen]
  rw [Oper.upon_value]
  go_wp2
  go_ret
  exact ⟨rfl, rfl⟩
theorem small_ok (c : Nat) (hc : c < 256) (w : World) : Calls Try.prog 51 #[.int .u8 (c : Nat)] w fun e w' => e = .returned (.int .u8 (smallN c : Nat)) ∧ w' = w := by
  by_cases h1 : 65 ≤ c
  · by_cases h2 : c ≤ 90
    · have e : smallN c = c + 32 := if_pos ⟨h1, h2⟩
      have hw : IntKind.u8.wrap ((c : Int) + 32) = ((c + 32 : Nat) : Int) := wraps_u8 _ (by omega) (by omega)
      have g1 : (65 : Int) ≤ (c : Int) := by omega
      have g2 : (c : Int) ≤ 90 := by omega
      rw [e]
      clear e h1 h2 hc
      go_enter Try.func51, Try.ntmps51
      go_wp2
      go_ret
      exact ⟨rfl, rfl⟩
    · have e : smallN c = c := if_neg (by omega)
      have g1 : (65 : Int) ≤ (c : Int) := by omega
      have g2 : ¬ (c : Int) ≤ 90 := by omega
      rw [e]
      clear e h1 h2 hc
      go_enter Try.func51, Try.ntmps51
      go_wp2
      go_ret
      exact ⟨rfl, rfl⟩
  · have e : smallN c = c := if_neg (by omega)
    have g1 : ¬ (65 : Int) ≤ (c : Int) := by omega
    rw [e]
    clear e h1 hc
    go_enter Try.func51, Try.ntmps51
    go_wp2
    go_ret
    exact ⟨rfl, rfl⟩
theorem small_lt (c : Nat) (hc : c < 256) : smallN c < 256 := by unfold smallN; split <;> omega
theorem two_lt (v : Nat) (h : v < 65536) : (v : Int) / 256 % 256 = ((v / 256 % 256 : Nat) : Int) ∧ (v : Int) % 256 = ((v % 256 : Nat) : Int) := by omega
theorem twoBytes_ok (v : Nat) (hv : v < 65536) (w : World) : Calls Try.prog 36 #[.int .u16 (v : Nat)] w fun e w' => Hid (e = .returned (.slice (some ⟨w.heap.size, 0, none⟩) 2 2) ∧ Below w.heap.size w w' ∧ w'.heap.size = w.heap.size + 1 ∧ ∀ j u, (fc (twoF v))[j]? = some u → w'.cell? ((⟨w.heap.size, 0, none⟩ : Addr).add j) = some u) := by
  have e1 : (v : Int) / 256 = ((v / 256 % 256 : Nat) : Int) := by omega
  have e2 : (v : Int) % 256 = ((v % 256 : Nat) : Int) := by omega
  have HE : Hid ((v : Int) / 256 = ((v / 256 % 256 : Nat) : Int) ∧ (v : Int) % 256 = ((v % 256 : Nat) : Int)) := ⟨e1, e2⟩
  clear e1 e2
  go_enter Try.func36, Try.ntmps36
  go_wp2
  go_ret
  rw [HE.out.1, HE.out.2]
  refine ⟨rfl, (Below.refl _ _).alloc (Nat.le_refl _) _, by simp, fun j u hu => ?_⟩
  exact World.news_of_block (w := w.alloc (.cells (fc (twoF v)).toArray 5)) (heap_alloc_new w _) j u (by simpa using hu)
theorem gap_ok (x : Nat) (w : World) : Calls Try.prog 35 #[.int .i32 (x : Nat)] w fun e w' => e = .returned (.bool (gapN x)) ∧ w' = w := by
  by_cases h1 : x = 32
  · subst h1
    go_enter Try.func35, Try.ntmps35
    go_wp2
    go_ret
    exact ⟨rfl, rfl⟩
  · by_cases h2 : x = 9
    · subst h2
      go_enter Try.func35, Try.ntmps35
      go_wp2
      go_ret
      exact ⟨rfl, rfl⟩
    · by_cases h3 : x = 10
      · subst h3
        go_enter Try.func35, Try.ntmps35
        go_wp2
        go_ret
        exact ⟨rfl, rfl⟩
      · by_cases h4 : x = 13
        · subst h4
          go_enter Try.func35, Try.ntmps35
          go_wp2
          go_ret
          exact ⟨rfl, rfl⟩
        · by_cases h5 : x = 45
          · subst h5
            go_enter Try.func35, Try.ntmps35
            go_wp2
            go_ret
            exact ⟨rfl, rfl⟩
          · have e : gapN x = false := by simp [gapN, h1, h2, h3, h4, h5]
            have g1 : ¬ (x : Int) = 32 := by omega
            have g2 : ¬ (x : Int) = 9 := by omega
            have g3 : ¬ (x : Int) = 10 := by omega
            have g4 : ¬ (x : Int) = 13 := by omega
            have g5 : ¬ (x : Int) = 45 := by omega
            rw [e]
            clear e h1 h2 h3 h4 h5
            go_enter Try.func35, Try.ntmps35
            go_wp2
            go_ret
            exact ⟨rfl, rfl⟩
theorem getU (s : ByteArray) (k : Nat) (h : k < s.size) : (s[k]'h).toNat = (s.data.toList.getD k 0).toNat := by
  rw [List.getD_eq_getElem?_getD, List.getElem?_eq_getElem (by rw [← Lib.size_eq]; exact h)]
  rfl
theorem index_str (s : ByteArray) (k : Nat) (h : k < s.size) (u : World) : (Instr.index 9 (.string s) (.int .i64 (k : Nat))).run Try.prog u = .ok (.int .u8 ((s.data.toList.getD k 0).toNat : Nat)) u := by
  rw [run_index_string u 9 s .i64 (k : Nat) (by kernel_rfl), dif_pos ⟨by omega, by omega⟩, ← getU s k h]
  rfl
theorem idx_con (c : Nat) (hc : c < 256) (w : World) : Calls Try.prog 50 #[.string conB, .int .u8 (c : Nat)] w fun e w' => e = .returned (.int .i64 (plc conL c)) ∧ w' = w := by
  have q := index_any conB (c : Nat) w
  rw [plc_con ⟨c, hc⟩] at q
  exact q
theorem idx_vow (c : Nat) (hc : c < 256) (w : World) : Calls Try.prog 50 #[.string vowB, .int .u8 (c : Nat)] w fun e w' => e = .returned (.int .i64 (plc vowL c)) ∧ w' = w := by
  have q := index_any vowB (c : Nat) w
  rw [plc_vow ⟨c, hc⟩] at q
  exact q
theorem wnum_step (w : List UInt8) (k v : Nat) (h : wnum w k = some v) : wnum w (k + 1) = if idxN (letL k) (smallN (w.getD k 0).toNat) < (letL k).length then some (v * (letL k).length + idxN (letL k) (smallN (w.getD k 0).toNat)) else none := by
  show (match wnum w k with | none => none | some v => _) = _
  rw [h]
theorem wnum_none (w : List UInt8) : ∀ (j k : Nat), wnum w k = none → wnum w (k + j) = none
  | 0, k, h => h
  | j + 1, k, h => by
    have q := wnum_none w j k h
    show (match wnum w (k + j) with | none => none | some v => _) = _
    rw [q]
set_option maxHeartbeats 1600000 in
set_option maxRecDepth 100000 in
theorem readWord_ok (s : ByteArray) (hs : s.size = 5) (w : World) : Calls Try.prog 37 #[.string s] w fun e w' => e = .returned (.int .u16 (wordN s.data.toList : Nat)) ∧ w' = w := by
  obtain ⟨l, HL⟩ : ∃ l, Hid (s.data.toList = l) := ⟨_, rfl⟩
  have H50c : Hid (∀ c u, c < 256 → Calls Try.prog 50 #[.string conB, .int .u8 (c : Nat)] u fun e w' => e = .returned (.int .i64 (plc conL c)) ∧ w' = u) := fun c u hc => idx_con c hc u
  have H50v : Hid (∀ c u, c < 256 → Calls Try.prog 50 #[.string vowB, .int .u8 (c : Nat)] u fun e w' => e = .returned (.int .i64 (plc vowL c)) ∧ w' = u) := fun c u hc => idx_vow c hc u
  have H51 : Hid (∀ c u, c < 256 → Calls Try.prog 51 #[.int .u8 (c : Nat)] u fun e w' => e = .returned (.int .u8 (smallN c : Nat)) ∧ w' = u) := fun c u hc => small_ok c hc u
  have HIX : Hid (∀ (k : Nat) u, k < 5 → (Instr.index 9 (.string s) (.int .i64 (k : Nat))).run Try.prog u = .ok (.int .u8 ((l.getD k 0).toNat : Nat)) u) := fun k u hk => by rw [← HL.out]; exact index_str s k (by omega) u
  rw [HL.out]
  clear hs HL
  go_enter Try.func37, Try.ntmps37
  go_wp2
  go_loopw [3, 7] (fun vn vi wr => ∃ k v : Nat, k ≤ 5 ∧ vn = .int .i64 (v : Nat) ∧ vi = .int .i64 (k : Nat) ∧ Hid (wnum l k = some v ∧ wr = w)) (fun _ vi _ => 5 - (intOf vi).toNat)
  case atStart => exact ⟨0, 0, by omega, rfl, rfl, rfl, rfl⟩
  case round =>
    obtain ⟨k, v, hk, rfl, rfl, HI⟩ := hrel
    obtain rfl := HI.out.2.symm
    by_cases hlt : k < 5
    · have HK : Hid (k < 5) := hlt
      have g1 : (k : Int) < 5 := by omega
      have g0 : (0 : Int) ≤ (k : Int) := by omega
      have hix := fun u => HIX.out k u hlt
      obtain ⟨c, HC⟩ : ∃ c, Hid ((l.getD k 0).toNat = c) := ⟨_, rfl⟩
      have hc : c < 256 := by rw [← HC.out]; exact UInt8.toNat_lt _
      rw [HC.out] at hix
      obtain ⟨z, HZ⟩ : ∃ z, Hid (smallN c = z) := ⟨_, rfl⟩
      have hz : z < 256 := by rw [← HZ.out]; exact small_lt c hc
      have HCC : Hid (c < 256 ∧ z < 256) := ⟨hc, hz⟩
      have HV : Hid (v < 65536) := wnum_lt5 l k v (by omega) HI.out.1
      have HST : Hid (wnum l (k + 1) = if idxN (letL k) z < (letL k).length then some (v * (letL k).length + idxN (letL k) z) else none) := by
        have q := wnum_step l k v HI.out.1
        rw [HC.out, HZ.out] at q
        exact q
      have wn : IntKind.i64.wrap ((k : Int) + 1) = ((k + 1 : Nat) : Int) := by rw [IntKind.wrap_i64]; omega
      have hkk : k % 2 = 0 ∨ k % 2 = 1 := by omega
      clear hc hz hlt hk
      rcases hkk with hm | hm
      · have HM : Hid (letL k = conL ∧ (conL).length = 16) := ⟨by unfold letL; rw [if_neg (by omega)], rfl⟩
        have r0 : (k : Int).tmod 2 = 0 := by rw [Int.tmod_eq_emod_of_nonneg (by omega)]; omega
        rw [HM.out.1, HM.out.2] at HST
        obtain ⟨p, HP⟩ : ∃ p, Hid (idxN conL z = p) := ⟨_, rfl⟩
        rw [HP.out] at HST
        clear hm
        by_cases hp : p < 16
        · have HPL : Hid (plc conL z = (p : Int)) := by show _ = _; unfold plc; rw [HP.out, if_pos (by rw [HM.out.2]; exact hp)]
          rw [if_pos hp] at HST
          obtain ⟨y, HY⟩ : ∃ y, Hid (v * 16 + p = y) := ⟨_, rfl⟩
          rw [HY.out] at HST
          have hv := HV.out
          have hy := HY.out
          have m1 : IntKind.i64.wrap ((v : Int) * 16) = ((v * 16 : Nat) : Int) := by rw [IntKind.wrap_i64]; omega
          obtain ⟨vm, HVM⟩ : ∃ x, Hid (v * 16 = x) := ⟨_, rfl⟩
          have m2 : IntKind.i64.wrap ((vm : Int) + (p : Int)) = (y : Int) := by have := HVM.out; rw [IntKind.wrap_i64]; omega
          rw [HVM.out] at m1
          have g3 : ¬ (p : Int) < 0 := by omega
          have g4 : (0 : Int) ≤ (p : Int) := by omega
          clear hy hv hp
          go_upto_region 9 with (first
            | (go_at_call 51; refine (H51.out c _ HCC.out.1).mono ?_; rintro e3 w3 ⟨rfl, hw⟩; obtain rfl := hw.symm; clear hw; rw [HZ.out])
            | (go_at_call 50; refine (H50c.out z _ HCC.out.2).mono ?_; rintro e3 w3 ⟨rfl, hw⟩; obtain rfl := hw.symm; clear hw; rw [HPL.out]))
          go_wp2
          have e0 := HK.out
          refine ⟨⟨k + 1, y, by omega, by first | rfl | (simp; done), by first | rfl | (simp; done), HST.out, by trivial⟩, ?_⟩
          simp [intOf]
          omega
        · have HPL : Hid (plc conL z = -1) := by show _ = _; unfold plc; rw [HP.out, if_neg (by rw [HM.out.2]; exact hp)]
          rw [if_neg hp] at HST
          have HW : Hid (wordN l = 0) := by
            have q := wnum_none l (5 - (k + 1)) (k + 1) HST.out
            rw [show k + 1 + (5 - (k + 1)) = 5 by have := HK.out; omega] at q
            show wordN l = 0
            unfold wordN
            rw [q]
            rfl
          clear hp
          go_upto_region 9 with (first
            | (go_at_call 51; refine (H51.out c _ HCC.out.1).mono ?_; rintro e3 w3 ⟨rfl, hw⟩; obtain rfl := hw.symm; clear hw; rw [HZ.out])
            | (go_at_call 50; refine (H50c.out z _ HCC.out.2).mono ?_; rintro e3 w3 ⟨rfl, hw⟩; obtain rfl := hw.symm; clear hw; rw [HPL.out]))
          go_wp2
          go_ret
          exact ⟨by rw [HW.out]; rfl, rfl⟩
      · have HM : Hid (letL k = vowL ∧ (vowL).length = 4) := ⟨by unfold letL; rw [if_pos hm], rfl⟩
        have r0 : (k : Int).tmod 2 = 1 := by rw [Int.tmod_eq_emod_of_nonneg (by omega)]; omega
        rw [HM.out.1, HM.out.2] at HST
        obtain ⟨p, HP⟩ : ∃ p, Hid (idxN vowL z = p) := ⟨_, rfl⟩
        rw [HP.out] at HST
        clear hm
        by_cases hp : p < 4
        · have HPL : Hid (plc vowL z = (p : Int)) := by show _ = _; unfold plc; rw [HP.out, if_pos (by rw [HM.out.2]; exact hp)]
          rw [if_pos hp] at HST
          obtain ⟨y, HY⟩ : ∃ y, Hid (v * 4 + p = y) := ⟨_, rfl⟩
          rw [HY.out] at HST
          have hv := HV.out
          have hy := HY.out
          have m1 : IntKind.i64.wrap ((v : Int) * 4) = ((v * 4 : Nat) : Int) := by rw [IntKind.wrap_i64]; omega
          obtain ⟨vm, HVM⟩ : ∃ x, Hid (v * 4 = x) := ⟨_, rfl⟩
          have m2 : IntKind.i64.wrap ((vm : Int) + (p : Int)) = (y : Int) := by have := HVM.out; rw [IntKind.wrap_i64]; omega
          rw [HVM.out] at m1
          have g3 : ¬ (p : Int) < 0 := by omega
          have g4 : (0 : Int) ≤ (p : Int) := by omega
          clear hy hv hp
          go_upto_region 9 with (first
            | (go_at_call 51; refine (H51.out c _ HCC.out.1).mono ?_; rintro e3 w3 ⟨rfl, hw⟩; obtain rfl := hw.symm; clear hw; rw [HZ.out])
            | (go_at_call 50; refine (H50v.out z _ HCC.out.2).mono ?_; rintro e3 w3 ⟨rfl, hw⟩; obtain rfl := hw.symm; clear hw; rw [HPL.out]))
          go_wp2
          have e0 := HK.out
          refine ⟨⟨k + 1, y, by omega, by first | rfl | (simp; done), by first | rfl | (simp; done), HST.out, by trivial⟩, ?_⟩
          simp [intOf]
          omega
        · have HPL : Hid (plc vowL z = -1) := by show _ = _; unfold plc; rw [HP.out, if_neg (by rw [HM.out.2]; exact hp)]
          rw [if_neg hp] at HST
          have HW : Hid (wordN l = 0) := by
            have q := wnum_none l (5 - (k + 1)) (k + 1) HST.out
            rw [show k + 1 + (5 - (k + 1)) = 5 by have := HK.out; omega] at q
            show wordN l = 0
            unfold wordN
            rw [q]
            rfl
          clear hp
          go_upto_region 9 with (first
            | (go_at_call 51; refine (H51.out c _ HCC.out.1).mono ?_; rintro e3 w3 ⟨rfl, hw⟩; obtain rfl := hw.symm; clear hw; rw [HZ.out])
            | (go_at_call 50; refine (H50v.out z _ HCC.out.2).mono ?_; rintro e3 w3 ⟨rfl, hw⟩; obtain rfl := hw.symm; clear hw; rw [HPL.out]))
          go_wp2
          go_ret
          exact ⟨by rw [HW.out]; rfl, rfl⟩
    · obtain rfl : k = 5 := by omega
      have HW : Hid (wordN l = v ∧ v < 65536) := ⟨by unfold wordN; rw [HI.out.1]; rfl, wnum_lt5 l 5 v (Nat.le_refl _) HI.out.1⟩
      have hv := HW.out.2
      have e : IntKind.u16.wrap (v : Int) = (v : Int) := wraps_u16' _ (by omega) (by omega)
      go_wp2
      go_ret
      exact ⟨by rw [HW.out.1]; rfl, rfl⟩
end Go.Proofs.Ytffejkfkkciaaaa
