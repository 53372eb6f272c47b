import Derived.Test.YtjcdhfkilnbjgaaDoorJub
import Derived.Test.YtjcdhfkilnbjgaaDoorPart12
import Derived.Deep.Cut
namespace Go.Proofs.YtjcdhfkilnbjgaaDoor
open Go.RowKit
set_option linter.unusedVariables false
set_option linter.unusedSimpArgs false
set_option maxRecDepth 100000
/-- What bytes gives of a line. -/
def BytQ (l : List F) (M : Nat) (e : Ending) (w w' : World) : Prop := ∃ g c, e = .returned (.tuple #[.slice (some ⟨g, 0, none⟩) l.length c, .bool true]) ∧ l.length ≤ c ∧ c ≤ maxLen ∧ M ≤ g ∧ Rx w' g l ∧ Below M w w'
theorem con_ix (j : Nat) (hj : j < 16) (u : World) : (Instr.index 9 (.string ⟨#[98, 100, 102, 103, 104, 106, 107, 108, 109, 110, 112, 114, 115, 116, 118, 122]⟩) (.int .i64 (j : Nat))).run Tryd.prog u = .ok (.int .u8 ((conU j).toNat : Nat)) u := index_str ⟨#[98, 100, 102, 103, 104, 106, 107, 108, 109, 110, 112, 114, 115, 116, 118, 122]⟩ j hj u
theorem vow_ix (j : Nat) (hj : j < 4) (u : World) : (Instr.index 9 (.string ⟨#[97, 105, 111, 117]⟩) (.int .i64 (j : Nat))).run Tryd.prog u = .ok (.int .u8 ((vowU j).toNat : Nat)) u := index_str ⟨#[97, 105, 111, 117]⟩ j hj u
theorem take_two (l : List F) (p : Nat) (h : 2 * p + 1 < l.length) : l.take (2 * (p + 1)) = l.take (2 * p) ++ [l.getD (2 * p) 0, l.getD (2 * p + 1) 0] := by
  rw [show 2 * (p + 1) = 2 * p + 1 + 1 by omega, List.getD_eq_getElem?_getD, List.getD_eq_getElem?_getD, List.getElem?_eq_getElem (show 2 * p < l.length by omega), List.getElem?_eq_getElem h, Option.getD_some, Option.getD_some]
  rw [show [l[2 * p]'(by omega), l[2 * p + 1]'h] = [l[2 * p]'(by omega)] ++ [l[2 * p + 1]'h] from rfl, ← List.append_assoc, List.take_append_getElem, List.take_append_getElem]
def atI (d j : Nat) : Int := if d < j then (d : Nat) else -1
theorem s_lt (l : List F) (s : ByteArray) (hs : WLs l = s) (p k : Nat) (hp : p < l.length / 2) (hk : k < 5) (h2 : 2 ≤ l.length) (u : World) : (Instr.index 9 (.string s) (.int .i64 ((6 * p + k : Nat) : Int))).run Tryd.prog u = .ok (.int .u8 ((ltW (vP l p) k).toNat : Nat)) u := by
  subst hs
  have hz := words_sz l h2
  have hlt : 6 * p + k < (WLs l).size := by omega
  rw [index_str _ _ hlt u, ← getU _ _ hlt, words_lt l p k hp hk hlt]
theorem s_gap (l : List F) (s : ByteArray) (hs : WLs l = s) (p : Nat) (hp : p + 1 < l.length / 2) (h2 : 2 ≤ l.length) (u : World) : (Instr.index 9 (.string s) (.int .i64 ((6 * p + 5 : Nat) : Int))).run Tryd.prog u = .ok (.int .u8 32) u := by
  subst hs
  have hz := words_sz l h2
  have hlt : 6 * p + 5 < (WLs l).size := by omega
  rw [index_str _ _ hlt u, ← getU _ _ hlt, wordsG_at l p hp hlt]
  rfl
theorem two_cellB (w : World) (a b : Nat) (t : TypeId) : ∀ j u, ([.int .u8 (a : Nat), .int .u8 (b : Nat)] : List Value)[j]? = some u → (w.alloc (.cells #[.int .u8 (a : Nat), .int .u8 (b : Nat)] t)).cell? ((⟨w.heap.size, 0, none⟩ : Addr).add j) = some u := fun j u hu =>
  World.news_of_block (w := w.alloc (.cells #[.int .u8 (a : Nat), .int .u8 (b : Nat)] t)) (cs := #[.int .u8 (a : Nat), .int .u8 (b : Nat)]) (heap_alloc_new w _) j u (by simpa using hu)
theorem two_oneB (a b : Nat) : ∀ u ∈ ([.int .u8 (a : Nat), .int .u8 (b : Nat)] : List Value), u.oneCell' = true := by intro u hu; simp at hu; rcases hu with rfl | rfl <;> rfl
theorem own_drwN {w : World} {B n : Nat} {t : TypeId} {v : Value} {cs : List Value} (h : w.ownsRow B t 1 v n cs) (m : Nat) : (w.drewN m).ownsRow B t 1 v n cs := h
set_option maxHeartbeats 3200000 in
theorem bytes_ok (l : List F) (s : ByteArray) (hl : Hid (2 ≤ l.length ∧ l.length ≤ 78 ∧ l.length % 2 = 0)) (hs : Hid (WLs l = s)) (w : World) : Calls Tryd.prog 15 #[.string s] w fun e w' => BytQ l w.heap.size e w w' := by
  obtain ⟨B, HB⟩ : ∃ z, Hid (w.heap.size = z) := ⟨_, rfl⟩
  obtain ⟨Z, HZ⟩ : ∃ z, Hid (s.size = z) := ⟨_, rfl⟩
  obtain ⟨K, HK⟩ : ∃ z, Hid (l.length / 2 = z) := ⟨_, rfl⟩
  have HZK : Hid (Z + 1 = 6 * K ∧ 1 ≤ K ∧ K ≤ 39 ∧ l.length = 2 * K) := by
    have h1 := words_sz l hl.out.1
    rw [hs.out, HZ.out, HK.out] at h1
    have := hl.out
    have := HK.out
    exact ⟨h1, by omega, by omega, by omega⟩
  have HLX : Hid (∀ p k x, x = 6 * p + k → p < K → k < 5 → ∀ u, (Instr.index 9 (.string s) (.int .i64 (x : Nat))).run Tryd.prog u = .ok (.int .u8 ((ltW (vP l p) k).toNat : Nat)) u) := fun p k x hx hp hk u => by subst hx; exact s_lt l s hs.out p k (by rw [HK.out]; exact hp) hk hl.out.1 u
  have HGX : Hid (∀ p x, x + 1 = 6 * p → 1 ≤ p → p < K → ∀ u, (Instr.index 9 (.string s) (.int .i64 (x : Nat))).run Tryd.prog u = .ok (.int .u8 32) u) := fun p x hx h1 hp u => by
    obtain ⟨q, rfl⟩ : ∃ q, p = q + 1 := ⟨p - 1, by omega⟩
    rw [show x = 6 * q + 5 by omega]
    exact s_gap l s hs.out q (by rw [HK.out]; exact hp) hl.out.1 u
  obtain ⟨i0, hi0, hz0, hz1, hz2⟩ := info_parts Tryd.infoB
  have HI0 : Hid (Tryd.prog.info? 5 = some i0 ∧ i0.zero = some (.int .u8 0) ∧ i0.size = 1 ∧ i0.bytes = 1) := ⟨hi0, hz0, hz1, hz2⟩
  clear hi0 hz0 hz1 hz2
  rw [HB.out]
  go_enter Tryd.func15, Tryd.ntmps15
  go_wp2
  go_loopw [6, 7] (fun vo vi wr => ∃ p x : Nat, p ≤ K ∧ vi = .int .i64 (x : Nat) ∧ Hid (x = 6 * p) ∧ Hid (wr.ownsRow B 5 1 vo (2 * p) (fc (l.take (2 * p))) ∧ Below B w wr ∧ B ≤ wr.heap.size)) (fun _ vi _ => 6 * K - (intOf vi).toNat)
  case atStart => exact ⟨0, 0, Nat.zero_le _, rfl, rfl, by rw [Nat.mul_zero, List.take_zero]; exact World.ownsRow_nil _ _ _ _, Below.refl _ _, Nat.le_of_eq HB.out.symm⟩
  case round =>
    obtain ⟨p, x, hp, rfl, hx, HI⟩ := hrel
    obtain ⟨wo, hwo⟩ : ∃ wo : World, wo = wr := ⟨_, rfl⟩
    subst hwo
    by_cases hlt : p < K
    · have HP : Hid (p < K) := hlt
      have g1 : (x : Int) < (s.size : Int) := by have := HZ.out; have := HZK.out; have := hx.out; omega
      obtain ⟨V, HV⟩ : ∃ z, Hid (vP l p = z) := ⟨_, rfl⟩
      have HV6 : Hid (V < 65536) := by rw [← HV.out]; exact vP_lt l p
      clear hlt hp
      go_upto_region 7 with fail
      go_cut [35] from 20 to 35 (fun c wx => c = .bool false ∧ wx = wo)
      case first =>
        have e1 : IntKind.i64.wrap ((x : Int) + 5) = (x : Int) + 5 := by rw [IntKind.wrap_i64]; have := hx.out; have := HP.out; have := HZK.out; omega
        have g2 : ¬ (s.size : Int) < (x : Int) + 5 := by have := HZ.out; have := HZK.out; have := HP.out; have := hx.out; omega
        by_cases h0 : p = 0
        · have g3 : ¬ (0 : Int) < (x : Int) := by have := hx.out; omega
          clear h0
          go_wp2
          go_meet
          exact ⟨rfl, rfl⟩
        · have g3 : (0 : Int) < (x : Int) := by have := hx.out; omega
          obtain ⟨y, HY⟩ : ∃ y, Hid (y + 1 = x) := ⟨x - 1, show _ = _ by have := hx.out; omega⟩
          have e2 : IntKind.i64.wrap ((x : Int) - 1) = (y : Nat) := by rw [IntKind.wrap_i64]; have := HY.out; have := hx.out; have := HP.out; have := HZK.out; omega
          have hgx := HGX.out p y (by rw [HY.out, hx.out]) (by omega) HP.out
          clear h0
          go_wp2
          go_meet
          exact ⟨rfl, rfl⟩
      case rest =>
      obtain ⟨rfl, hwc⟩ := hcut
      obtain rfl := hwc.symm
      go_upto_region 11 with fail
      go_loopw [8, 9] (fun vv vk wx => ∃ k v : Nat, k ≤ 5 ∧ vv = .int .i64 (v : Nat) ∧ vk = .int .i64 (k : Nat) ∧ Hid (v = preW V k) ∧ ∃ m, Hid (wx = wo.drewN m)) (fun _ vk _ => 5 - (intOf vk).toNat)
      case atStart => exact ⟨0, 0, by omega, rfl, rfl, rfl, 0, rfl⟩
      case round =>
        obtain ⟨k, v, hk, rfl, rfl, hv, m, hm⟩ := hrel
        obtain rfl := hm.out.symm
        by_cases hk5 : k < 5
        · have HK5 : Hid (k < 5) := hk5
          have g3 : (k : Int) < 5 := by omega
          obtain ⟨c, HCC⟩ : ∃ z, Hid ((ltW V k).toNat = z) := ⟨_, rfl⟩
          obtain ⟨d, HD⟩ : ∃ z, Hid (dgW V k = z) := ⟨_, rfl⟩
          have HD2 : Hid (d < if k % 2 = 1 then 4 else 16) := by rw [← HD.out]; exact dgW_lt V k HV6.out hk5
          have HIX : Hid (∀ u, (Instr.index 9 (.string s) (.int .i64 (((x : Int) + (k : Int))))).run Tryd.prog u = .ok (.int .u8 (c : Nat)) u) := by
            intro u
            have q := HLX.out p k (x + k) (by rw [hx.out]) HP.out hk5 u
            rw [HV.out, HCC.out, Int.natCast_add] at q
            exact q
          have e1 : IntKind.i64.wrap ((x : Int) + (k : Int)) = (x : Int) + (k : Int) := by rw [IntKind.wrap_i64]; have := hx.out; have := HP.out; have := HZK.out; omega
          have HKK : Hid (IntKind.i64.wrap ((k : Int) + 1) = ((k + 1 : Nat) : Int)) := by show _ = _; rw [IntKind.wrap_i64]; omega
          have hkk : k % 2 = 0 ∨ k % 2 = 1 := by omega
          clear hk5 hk
          rcases hkk with h2 | h2
          · have HDN : Hid (d < 16) := by have z := HD2.out; rw [if_neg (by omega)] at z; exact z
            have HCE : Hid ((conU d).toNat = c) := by
              show _ = _
              rw [← HCC.out, ← HD.out]
              unfold ltW
              rw [if_neg (by omega)]
            have r0 : (k : Int).tmod 2 = 0 := by rw [Int.tmod_eq_emod_of_nonneg (by omega)]; omega
            have HPS : Hid (preW V (k + 1) = v * 16 + d) := by
              show _ = _
              rw [preW_step V k HK5.out, if_neg (by omega), HD.out, ← hv.out]
            have HVL : Hid (v * 16 + d < 65536) := by show _ < _; rw [← HPS.out]; exact Nat.lt_of_le_of_lt (preW_le V (k + 1)) HV6.out
            clear h2
            go_upto_region 20 with fail
            go_loopw [12, 13] (fun va vj wy => ∃ j : Nat, ∃ a : Int, j ≤ 16 ∧ va = .int .i64 a ∧ vj = .int .i64 (j : Nat) ∧ Hid (a = atI d j) ∧ ∃ q, Hid (wy = wo.drewN q)) (fun _ vj _ => 16 - (intOf vj).toNat)
            case atStart => exact ⟨0, -1, by omega, rfl, rfl, by show _ = _; unfold atI; rw [if_neg (by omega)], m, rfl⟩
            case round =>
              obtain ⟨j, a, hj, rfl, rfl, ha, q, hq⟩ := hrel
              obtain rfl := hq.out.symm
              by_cases hjn : j < 16
              · have HJN : Hid (j < 16) := hjn
                have g4 : (j : Int) < 16 := by omega
                obtain ⟨y, HY⟩ : ∃ z, Hid ((conU j).toNat = z) := ⟨_, rfl⟩
                have hcx : ∀ u, (Instr.index 9 (.string ⟨#[98, 100, 102, 103, 104, 106, 107, 108, 109, 110, 112, 114, 115, 116, 118, 122]⟩) (.int .i64 (j : Nat))).run Tryd.prog u = .ok (.int .u8 (y : Nat)) u := fun u => by rw [← HY.out]; exact con_ix j hjn u
                have hix := HIX.out
                have ej : IntKind.i64.wrap ((j : Int) + 1) = ((j + 1 : Nat) : Int) := by rw [IntKind.wrap_i64]; omega
                by_cases hjd : j = d
                · have hyc : y = c := by rw [← HY.out, hjd, HCE.out]
                  subst hyc
                  have HNX : Hid (atI d (j + 1) = ((j : Nat) : Int)) := by show _ = _; unfold atI; rw [if_pos (by omega), hjd]
                  clear hjd hjn hj
                  go_wp2
                  go_quiet (fail)
                  go_wp2
                  go_roundw
                  case rel => exact ⟨j + 1, _, by have := HJN.out; omega, rfl, by go_num, HNX.out.symm, _, rfl⟩
                  case measure => simp [intOf]; have := HJN.out; omega
                · have hne : ¬ ((y : Nat) : Int) = ((c : Nat) : Int) := fun e => hjd (by
                    rw [← HY.out, ← HCE.out] at e
                    have z := con_only ⟨j, hjn⟩ ⟨d, HDN.out⟩ e
                    exact congrArg (fun (i : Fin 16) => i.1) z)
                  have HNX : Hid (atI d (j + 1) = a) := by
                    show _ = _
                    rw [ha.out]
                    unfold atI
                    by_cases h : d < j
                    · rw [if_pos h, if_pos (by omega)]
                    · rw [if_neg h, if_neg (by omega)]
                  clear hjd hjn hj
                  go_wp2
                  go_quiet (fail)
                  go_wp2
                  go_roundw
                  case rel => exact ⟨j + 1, _, by have := HJN.out; omega, rfl, by go_num, HNX.out.symm, _, rfl⟩
                  case measure => simp [intOf]; have := HJN.out; omega
              · obtain rfl : j = 16 := by omega
                have g4 : ¬ ((16 : Nat) : Int) < 16 := by omega
                have ha2 : a = (d : Nat) := by rw [ha.out]; unfold atI; rw [if_pos HDN.out]
                subst ha2
                have g5 : ¬ ((d : Nat) : Int) < 0 := by omega
                obtain ⟨vb, HVB⟩ : ∃ z, Hid (v * 16 = z) := ⟨_, rfl⟩
                obtain ⟨vn, HVN⟩ : ∃ z, Hid (vb + d = z) := ⟨_, rfl⟩
                have HNV : Hid (vn = preW V (k + 1)) := by show _ = _; rw [HPS.out, ← HVN.out, ← HVB.out]
                have m1 : IntKind.i64.wrap ((v : Int) * 16) = (vb : Nat) := by rw [IntKind.wrap_i64]; have := HVL.out; have := HVB.out; omega
                have m2 : IntKind.i64.wrap ((vb : Int) + (d : Int)) = (vn : Nat) := by rw [IntKind.wrap_i64]; have := HVL.out; have := HVB.out; have := HVN.out; omega
                have ek := HKK.out
                clear ha hjn hj
                go_wp2
                go_roundw
                case rel => exact ⟨k + 1, vn, by have := HK5.out; omega, rfl, by go_num, HNV.out, _, rfl⟩
                case measure => simp [intOf]; have := HK5.out; omega
          · have HDN : Hid (d < 4) := by have z := HD2.out; rw [if_pos (by omega)] at z; exact z
            have HCE : Hid ((vowU d).toNat = c) := by
              show _ = _
              rw [← HCC.out, ← HD.out]
              unfold ltW
              rw [if_pos (by omega)]
            have r0 : (k : Int).tmod 2 = 1 := by rw [Int.tmod_eq_emod_of_nonneg (by omega)]; omega
            have HPS : Hid (preW V (k + 1) = v * 4 + d) := by
              show _ = _
              rw [preW_step V k HK5.out, if_pos (by omega), HD.out, ← hv.out]
            have HVL : Hid (v * 4 + d < 65536) := by show _ < _; rw [← HPS.out]; exact Nat.lt_of_le_of_lt (preW_le V (k + 1)) HV6.out
            clear h2
            go_upto_region 20 with fail
            go_loopw [12, 13] (fun va vj wy => ∃ j : Nat, ∃ a : Int, j ≤ 4 ∧ va = .int .i64 a ∧ vj = .int .i64 (j : Nat) ∧ Hid (a = atI d j) ∧ ∃ q, Hid (wy = wo.drewN q)) (fun _ vj _ => 4 - (intOf vj).toNat)
            case atStart => exact ⟨0, -1, by omega, rfl, rfl, by show _ = _; unfold atI; rw [if_neg (by omega)], m, rfl⟩
            case round =>
              obtain ⟨j, a, hj, rfl, rfl, ha, q, hq⟩ := hrel
              obtain rfl := hq.out.symm
              by_cases hjn : j < 4
              · have HJN : Hid (j < 4) := hjn
                have g4 : (j : Int) < 4 := by omega
                obtain ⟨y, HY⟩ : ∃ z, Hid ((vowU j).toNat = z) := ⟨_, rfl⟩
                have hcx : ∀ u, (Instr.index 9 (.string ⟨#[97, 105, 111, 117]⟩) (.int .i64 (j : Nat))).run Tryd.prog u = .ok (.int .u8 (y : Nat)) u := fun u => by rw [← HY.out]; exact vow_ix j hjn u
                have hix := HIX.out
                have ej : IntKind.i64.wrap ((j : Int) + 1) = ((j + 1 : Nat) : Int) := by rw [IntKind.wrap_i64]; omega
                by_cases hjd : j = d
                · have hyc : y = c := by rw [← HY.out, hjd, HCE.out]
                  subst hyc
                  have HNX : Hid (atI d (j + 1) = ((j : Nat) : Int)) := by show _ = _; unfold atI; rw [if_pos (by omega), hjd]
                  clear hjd hjn hj
                  go_wp2
                  go_quiet (fail)
                  go_wp2
                  go_roundw
                  case rel => exact ⟨j + 1, _, by have := HJN.out; omega, rfl, by go_num, HNX.out.symm, _, rfl⟩
                  case measure => simp [intOf]; have := HJN.out; omega
                · have hne : ¬ ((y : Nat) : Int) = ((c : Nat) : Int) := fun e => hjd (by
                    rw [← HY.out, ← HCE.out] at e
                    have z := vow_only ⟨j, hjn⟩ ⟨d, HDN.out⟩ e
                    exact congrArg (fun (i : Fin 4) => i.1) z)
                  have HNX : Hid (atI d (j + 1) = a) := by
                    show _ = _
                    rw [ha.out]
                    unfold atI
                    by_cases h : d < j
                    · rw [if_pos h, if_pos (by omega)]
                    · rw [if_neg h, if_neg (by omega)]
                  clear hjd hjn hj
                  go_wp2
                  go_quiet (fail)
                  go_wp2
                  go_roundw
                  case rel => exact ⟨j + 1, _, by have := HJN.out; omega, rfl, by go_num, HNX.out.symm, _, rfl⟩
                  case measure => simp [intOf]; have := HJN.out; omega
              · obtain rfl : j = 4 := by omega
                have g4 : ¬ ((4 : Nat) : Int) < 4 := by omega
                have ha2 : a = (d : Nat) := by rw [ha.out]; unfold atI; rw [if_pos HDN.out]
                subst ha2
                have g5 : ¬ ((d : Nat) : Int) < 0 := by omega
                obtain ⟨vb, HVB⟩ : ∃ z, Hid (v * 4 = z) := ⟨_, rfl⟩
                obtain ⟨vn, HVN⟩ : ∃ z, Hid (vb + d = z) := ⟨_, rfl⟩
                have HNV : Hid (vn = preW V (k + 1)) := by show _ = _; rw [HPS.out, ← HVN.out, ← HVB.out]
                have m1 : IntKind.i64.wrap ((v : Int) * 4) = (vb : Nat) := by rw [IntKind.wrap_i64]; have := HVL.out; have := HVB.out; omega
                have m2 : IntKind.i64.wrap ((vb : Int) + (d : Int)) = (vn : Nat) := by rw [IntKind.wrap_i64]; have := HVL.out; have := HVB.out; have := HVN.out; omega
                have ek := HKK.out
                clear ha hjn hj
                go_wp2
                go_roundw
                case rel => exact ⟨k + 1, vn, by have := HK5.out; omega, rfl, by go_num, HNV.out, _, rfl⟩
                case measure => simp [intOf]; have := HK5.out; omega
        · obtain rfl : k = 5 := by omega
          have hv5 : v = V := hv.out
          subst hv5
          have g3 : ¬ ((5 : Nat) : Int) < 5 := by omega
          have hd1 : ((v : Nat) : Int).tdiv 256 = ((v / 256 : Nat) : Int) := by rw [Int.tdiv_eq_ediv_of_nonneg (by omega)]; omega
          have hd2 : ((v : Nat) : Int).tmod 256 = ((v % 256 : Nat) : Int) := by rw [Int.tmod_eq_emod_of_nonneg (by omega)]; omega
          obtain ⟨a, HA⟩ : ∃ z, Hid (v / 256 = z) := ⟨_, rfl⟩
          obtain ⟨b, HBB⟩ : ∃ z, Hid (v % 256 = z) := ⟨_, rfl⟩
          rw [HA.out] at hd1
          rw [HBB.out] at hd2
          have wa : RowKit.wrap64 ((a : Nat) : Int) % 256 = (a : Nat) := by have := HA.out; have := HV6.out; simp [RowKit.wrap64]; omega
          have wb : IntKind.u8.wrap ((b : Nat) : Int) = (b : Nat) := wraps_u8 _ (by omega) (by have := HBB.out; omega)
          have HAB : Hid (fc (l.take (2 * (p + 1))) = fc (l.take (2 * p)) ++ [.int .u8 (a : Nat), .int .u8 (b : Nat)]) := by
            show _ = _
            obtain ⟨z1, z2⟩ := pair_back l p
            rw [HV.out] at z1 z2
            have f1 : (l.getD (2 * p) 0).1 = a := by rw [← z1, ← HA.out]; exact fN_val _ (by have := HV6.out; omega)
            have f2 : (l.getD (2 * p + 1) 0).1 = b := by rw [← z2, ← HBB.out]; rfl
            rw [take_two l p (by have := HZK.out; have := HP.out; omega), fc_appD]
            congr 1
            simp only [fc, List.map_cons, List.map_nil, f1, f2]
          have ex : IntKind.i64.wrap ((x : Int) + 6) = ((x + 6 : Nat) : Int) := by rw [IntKind.wrap_i64]; have := hx.out; have := HP.out; have := HZK.out; omega
          have HO : Hid ((wo.drewN m).ownsRow B 5 1 _ (2 * p) (fc (l.take (2 * p))) ∧ Below B w (wo.drewN m) ∧ B ≤ (wo.drewN m).heap.size) := ⟨own_drwN HI.out.1 m, below_drewN0 HI.out.2.1 m, HI.out.2.2⟩
          obtain ⟨wk, hwk⟩ : ∃ u, Hid (u = wo.drewN m) := ⟨_, rfl⟩
          rw [← hwk.out] at HO ⊢
          go_wp2_with (first
            | (at_builtin; go_must (refine wpList_append_own _ rfl (.tmp 67) (.tmp 74) 23 rfl B 5 i0 (.int .u8 0) 1 1 (by kernel_rfl) HI0.out.1 HI0.out.2.1 HI0.out.2.2.1 HI0.out.2.2.2 rfl (by decide) _ (2 * p) _ rfl (HO.out.1.alloc _) ⟨wk.heap.size, 0, none⟩ 2 2 [.int .u8 (a : Nat), .int .u8 (b : Nat)] rfl rfl (two_cellB wk a b 5) (two_oneB a b) (by have := HP.out; have := HZK.out; unfold maxLen; omega) (by have := HP.out; have := HZK.out; omega) (by have := HO.out.2.2; simp; omega) ?_; intro v9 w9 hown hgrow hnil; have H9 : Hid (w9.ownsRow B 5 1 v9 (2 * (p + 1)) (fc (l.take (2 * (p + 1)))) ∧ Below B w w9 ∧ B ≤ w9.heap.size) := (by
                have hb9 := (HO.out.2.1.alloc HO.out.2.2 (.cells #[.int .u8 (a : Nat), .int .u8 (b : Nat)] 5)).grown hgrow (by have := HO.out.2.2; simp; omega) (fun q hq => (HO.out.1.lt q hq).1)
                rw [HAB.out]
                exact ⟨hown, hb9, by rw [← HB.out]; exact hb9.size⟩); clear hown hgrow hnil))
            | fail)
          go_roundw
          case rel => exact ⟨p + 1, x + 6, HP.out, by go_num, by show _ = _; rw [hx.out]; omega, H9.out⟩
          case measure => simp [intOf]; have := HP.out; have := hx.out; omega
    · obtain rfl : p = K := by omega
      have g1 : ¬ (x : Int) < (s.size : Int) := by have := HZ.out; have := HZK.out; have := hx.out; omega
      have hr : ((s.size : Nat) : Int).tmod 6 = 5 := by rw [Int.tmod_eq_emod_of_nonneg (by omega)]; have := HZ.out; have := HZK.out; omega
      go_wp2
      go_ret2
      rw [show 2 * p = l.length from HZK.out.2.2.2.symm, List.take_length] at HI
      obtain ⟨g, c, rfl, hx2⟩ := own_rc HI.out.1 (by have := hl.out; omega)
      exact ⟨g, c, rfl, hx2.out.2.2.1, hx2.out.2.2.2, hx2.out.2.1, hx2.out.1, HI.out.2.1⟩
end Go.Proofs.YtjcdhfkilnbjgaaDoor
