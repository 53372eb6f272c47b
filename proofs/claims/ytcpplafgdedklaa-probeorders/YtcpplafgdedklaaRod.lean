import Derived.Test.YtcpplafgdedklaaRod0
import Derived.Deep.QuietTactic
import Derived.WalkSmall
namespace Go.Proofs.Ytcpplafgdedklaa
open Go.RowKit
set_option linter.unusedVariables false
set_option linter.unusedSimpArgs false
/-- What is written when a priority's turn comes. -/
def outL (l : List Slo) : Nat → List Int
  | 0 => ordL l
  | 1 => srt (askN l 2)
  | _ => []
theorem outL_next (l : List Slo) (q : Nat) (h : 1 ≤ q) (h2 : q ≤ 2) : outL l (q - 1) = outL l q ++ srt (askN l q) := by
  have : q = 1 ∨ q = 2 := by omega
  rcases this with rfl | rfl
  · rfl
  · simp [outL]
theorem SloV.at {w : World} {a : Option Addr} {n cap : Nat} {l : List Slo} (h : SloV w (.slice a n cap) l) (i : Nat) (x : Slo) (hx : l[i]? = some x) :
    ∃ b off, a = some ⟨b, off, none⟩ ∧ w.cell? ⟨b, off + i * 9, none⟩ = some (.int .i64 x.n) ∧ w.cell? ⟨b, off + i * 9 + 1, none⟩ = some (.int .i64 x.p) := by
  obtain ⟨a', cap', e', _, hl0 | ⟨b, off, e2, hb, hcs⟩⟩ := h
  · rw [hl0] at hx; simp at hx
  · cases e'
    exact ⟨b, off, e2, hcs i x hx 0 _ rfl, hcs i x hx 1 _ rfl⟩
theorem bdrewN {B : Nat} {a w : World} (h : Below B a w) (n : Nat) : Below B a (w.drewN n) := h.trans ⟨rfl, rfl, rfl, Nat.le_refl _, fun _ _ => rfl⟩
theorem set_swap (Q Y : List Value) (a b c d : Value) (k : Nat) (hk : k = Q.length) : ((Q ++ a :: b :: Y).set (k + 1) c).set k d = Q ++ d :: c :: Y := by
  subst hk
  rw [List.set_append_right _ _ (by omega), List.set_append_right _ _ (by omega)]
  simp
theorem swapped (P X Y : List Int) (y z : Int) (k : Nat) (hk : k = P.length + X.length) : ((cellsI (P ++ (X ++ [y]) ++ z :: Y)).set (k + 1) (.int .i64 y)).set k (.int .i64 z) = cellsI (P ++ X ++ z :: y :: Y) := by
  have h := set_swap (cellsI (P ++ X)) (cellsI Y) (.int .i64 y) (.int .i64 z) (.int .i64 y) (.int .i64 z) k (by simp [cellsI, hk])
  simpa [cellsI] using h
theorem askN_take (l : List Slo) (i : Nat) (p : Int) : (askN (l.take i) p).length ≤ (askN l p).length := by
  have h : askN l p = askN (l.take i) p ++ askN (l.drop i) p := by
    conv => lhs; rw [← List.take_append_drop i l]
    unfold askN
    rw [List.filter_append, List.map_append]
  rw [h, List.length_append]
  omega
theorem outL_len (l : List Slo) (q i : Nat) (h : 1 ≤ q) (h2 : q ≤ 2) : (outL l q).length + (askN (l.take i) (q : Nat)).length ≤ l.length := by
  have h3 := askN_sum l
  have : q = 1 ∨ q = 2 := by omega
  rcases this with rfl | rfl
  · have := askN_take l i 1
    simp only [outL, srt_len]
    exact Nat.le_trans (by simpa using this) h3
  · have := askN_take l i 2
    simp only [outL, List.length_nil, Nat.zero_add]
    have e : (askN (l.take i) ((2 : Nat) : Int)).length ≤ (askN l 2).length := by simpa using this
    omega
set_option maxHeartbeats 3200000 in
set_option maxRecDepth 100000 in
theorem rorder_ok (m : Met) (v : Value) (l : List Slo) (w : World) (h : SloV w v l) :
    Calls Try.prog 8 #[.agg (metC m v)] w fun e w' => ∃ r, e = .returned r ∧ w'.ownsRow w.heap.size 3 1 r (ordL l).length (cellsI (ordL l)) ∧ Below w.heap.size w w' := by
  obtain ⟨i0, hi, hz0, hz1, hz2⟩ := info_parts info3
  have h0 := h
  obtain ⟨a, cap, rfl, hm, _⟩ := h0
  obtain ⟨n, hn⟩ : ∃ n, n = l.length := ⟨_, rfl⟩
  rw [← hn] at h hm
  rw [← hn]
  have HN : Hid (n = l.length) := hn
  clear hn
  obtain ⟨W1, hW1⟩ : ∃ W1, W1 = w.alloc (.cells (metC m (.slice a n cap)) 38) := ⟨_, rfl⟩
  have hB1 : Hid (Below w.heap.size w W1) := by rw [hW1]; exact (Below.refl _ w).alloc (Nat.le_refl _) _
  have hsz : W1.heap.size = w.heap.size + 1 := by rw [hW1]; simp
  have hcell : W1.cell? ⟨w.heap.size, 11, none⟩ = some (.slice a n cap) := by rw [hW1]; exact rangeNew _ _ _ _ _ rfl
  have hld : Hid (∀ u, Below (w.heap.size + 1) W1 u → u.cell? ⟨w.heap.size, 11, none⟩ = some (.slice a n cap)) := fun u hu => (hu.cell (p := ⟨w.heap.size, 11, none⟩) (by simp)).trans hcell
  have HSv : Hid (∀ u, Below (w.heap.size + 1) W1 u → SloV u (.slice a n cap) l) := fun u hu => SloV.below h (hB1.out.trans (hu.mono (by omega)))
  clear hcell h
  go_enter Try.func8, Try.ntmps8
  go_upto_region 1 with fail
  rw [← hW1]
  clear hW1
  go_wp2
  go_loopw [3, 4] (fun vl vp wr => ∃ (q L : Nat) (a3 : Option Addr) (c3 : Nat), q ≤ 2 ∧ vp = .int .i64 q ∧ vl = .slice a3 L c3 ∧ Hid (L = (outL l q).length) ∧ Hid (wr.ownsRow (w.heap.size + 1) 3 1 (.slice a3 L c3) L (cellsI (outL l q))) ∧ Hid (Below (w.heap.size + 1) W1 wr)) (fun _ vp _ => (intOf vp).toNat)
  case atStart => exact ⟨2, 0, none, 0, by omega, rfl, rfl, rfl, World.ownsRow_nil _ _ _ _, Below.refl _ _⟩
  case round =>
    obtain ⟨q, P, a3, c3, hq, rfl, rfl, HP, HO, HB⟩ := hrel
    by_cases hq1 : 1 ≤ q
    · have dq : decide ((1 : Int) ≤ ((q : Nat) : Int)) = true := by simp; omega
      go_wp2
      go_loopw [3, 6] (fun vl vi wr => ∃ (i L : Nat) (a4 : Option Addr) (c4 : Nat), i ≤ n ∧ vi = .int .i64 i ∧ vl = .slice a4 L c4 ∧ Hid (L = P + (askN (l.take i) (q : Nat)).length) ∧ Hid (wr.ownsRow (w.heap.size + 1) 3 1 (.slice a4 L c4) L (cellsI (outL l q ++ srt (askN (l.take i) (q : Nat))))) ∧ Hid (Below (w.heap.size + 1) W1 wr)) (fun _ vi _ => n - (intOf vi).toNat)
      case atStart => exact ⟨0, P, a3, c3, by omega, rfl, rfl, by simp [askN, Hid], by simpa [askN, srt] using HO, HB⟩
      case round =>
        obtain ⟨i, L, a4, c4, hin, rfl, rfl, HL, HO4, HB4⟩ := hrel
        clear HO HB
        have hcw := hld.out _ HB4.out
        have hll : Hid (L ≤ n) := by
          have h1 := outL_len l q i hq1 hq
          have h2 := HL.out
          have h3 := HN.out
          have h4 := HP.out
          show _ ≤ _
          omega
        by_cases hlt : i < n
        · obtain ⟨x, hx⟩ : ∃ x, l[i]? = some x := ⟨l[i]'(by have := HN.out; omega), List.getElem?_eq_getElem _⟩
          obtain ⟨b, off, rfl, c0, c1⟩ := (HSv.out _ HB4.out).at i x hx
          by_cases he : x.p = (q : Nat)
          · have hE : (x.p != (q : Nat)) = false := by simp [he]
            have HE : Hid (x.p = (q : Nat)) := he
            clear he
            have hl2 := hll.out
            go_wp2_with (first
              | (at_builtin; go_must (refine wpList_append_lies _ rfl (.tmp 30) (.tmp 37) 39 rfl (w.heap.size + 1) 3 i0 (.int .i64 0) 1 8 Try.underlying39 hi hz0 hz1 hz2 rfl (by decide) _ L _ rfl (HO4.out.alloc _) ⟨wr.heap.size, 0, none⟩ 1 1 (cellsI [x.n]) rfl rfl (World.news_of_block (heap_alloc_new wr _)) (cellsI_one _) (by decide) (by unfold maxLen; omega) (by omega) (by have := HB4.out.size; simp; omega) (wr.heap.size + 1) (by simp) ?_)))
            intro g cp w2 hown3 hgrow2 hat hglt
            have hw1 : w.heap.size + 1 ≤ wr.heap.size := by have := HB4.out.size; omega
            have HB5 : Hid (Below (w.heap.size + 1) W1 w2) := (HB4.out.alloc hw1 _).grown hgrow2 (by simp; omega) (fun q hq => (HO4.out.lt q hq).1)
            obtain ⟨A, HA⟩ : ∃ A, Hid (A = srt (askN (l.take i) (q : Nat))) := ⟨_, rfl⟩
            have HO5 : Hid (w2.ownsRow (w.heap.size + 1) 3 1 (.slice (some ⟨g, 0, none⟩) (L + 1) cp) (L + 1) (cellsI (outL l q ++ A ++ x.n :: []))) := by
              rw [← cellsI_append] at hown3
              rw [HA.out]
              exact hown3
            have HLA : Hid (L = P + A.length) := by rw [HA.out, srt_len]; exact HL
            clear hown3 hgrow2 hat hglt HO4 HB4 hcw c0 c1
            go_wp2
            go_loopw [7] (fun vk wr => ∃ (X Y : List Int), Hid (X ++ Y = A) ∧ vk = .int .i64 ((P + X.length : Nat)) ∧ Hid (∀ y ∈ Y, x.n ≤ y) ∧ Hid (wr.ownsRow (w.heap.size + 1) 3 1 (.slice (some ⟨g, 0, none⟩) (L + 1) cp) (L + 1) (cellsI (outL l q ++ X ++ x.n :: Y))) ∧ Hid (Below (w.heap.size + 1) W1 wr)) (fun vk _ => (intOf vk).toNat)
            case atStart => exact ⟨A, [], by simp [Hid], by congr 1; have := HLA.out; omega, by simp [Hid], HO5, HB5⟩
            case round =>
              obtain ⟨X, Y, HXY, rfl, HY, HO6, HB6⟩ := hrel
              clear HO5 HB5
              rcases List.eq_nil_or_concat X with rfl | ⟨X', y, rfl⟩
              · simp only [List.length_nil, Nat.add_zero]
                have d1 : decide ((P : Int) < (P : Int)) = false := by simp
                have HO7 : Hid (wr.ownsRow (w.heap.size + 1) 3 1 (.slice (some ⟨g, 0, none⟩) (L + 1) cp) (L + 1) (cellsI (outL l q ++ srt (askN (l.take (i + 1)) (q : Nat))))) := by
                  rw [take_more l i x hx, askN_snoc_yes _ _ _ HE.out, ← srt_ins _ x.n [] Y (HXY.out.trans HA.out) HY.out (by simp)]
                  show World.ownsRow _ _ _ _ _ _ _
                  simpa using HO6.out
                have HL7 : Hid (L + 1 = P + (askN (l.take (i + 1)) (q : Nat)).length) := by
                  rw [take_more l i x hx, askN_snoc_yes _ _ _ HE.out, List.length_append]
                  have := HL.out
                  show _ = _
                  simp
                  omega
                go_wp2
                go_quiet (fail)
                go_wp2
                go_roundw
                case rel => exact ⟨i + 1, L + 1, some ⟨g, 0, none⟩, cp, by omega, by go_num, rfl, HL7, HO7, bdrewN HB6.out _⟩
                case measure => simp [intOf]; omega
              · have hcat : X'.concat y = X' ++ [y] := by simp
                rw [hcat] at HXY HO6
                rw [hcat]
                have hk : P + (X' ++ [y]).length = P + X'.length + 1 := by simp; omega
                rw [hk]
                obtain ⟨K, HK⟩ : ∃ K, Hid (K = P + X'.length) := ⟨_, rfl⟩
                rw [← HK.out]
                have hPK : P ≤ K := by have := HK.out; omega
                have hLl : Hid ((outL l q ++ (X' ++ [y]) ++ x.n :: Y).length = L + 1) := by
                  have := HO6.out.1
                  simp [cellsI] at this
                  show _ = _
                  simp
                  omega
                have hKL : K + 1 < L + 1 := by
                  have h1 := hLl.out
                  have h2 := HK.out
                  have h3 := HP.out
                  simp at h1
                  omega
                have e1 : (outL l q ++ (X' ++ [y]) ++ x.n :: Y)[K + 1]? = some x.n := by
                  have hz : P + X'.length + 1 - (outL l q ++ (X' ++ [y])).length = 0 := by have := HP.out; simp; omega
                  rw [HK.out, List.getElem?_append_right (by have := HP.out; simp; omega), hz]
                  rfl
                have e0 : (outL l q ++ (X' ++ [y]) ++ x.n :: Y)[K]? = some y := by
                  rw [HK.out, HP.out, List.getElem?_append_left (by simp), List.getElem?_append_right (by simp)]
                  simp
                have k1 : wr.cell? ⟨g, K + 1, none⟩ = some (.int .i64 x.n) := by rw [HO6.out.cellAt (K + 1) (by omega), cellsI, List.getElem?_map, e1]; rfl
                have k0 : wr.cell? ⟨g, K, none⟩ = some (.int .i64 y) := by rw [HO6.out.cellAt K (by omega), cellsI, List.getElem?_map, e0]; rfl
                have f1 : wr.frozen? ⟨g, K + 1, none⟩ = false := HO6.out.frozenAt _
                have f0 : wr.frozen? ⟨g, K, none⟩ = false := HO6.out.frozenAt _
                clear e0 e1
                have d1 : decide ((P : Int) < (K : Int) + 1) = true := by simp; omega
                by_cases hlty : x.n < y
                · have d2 : decide (x.n < y) = true := by simp [hlty]
                  go_wp2
                  go_quiet (fail)
                  go_wp2
                  have hst1 := HO6.out.stored (K + 1) (.int .i64 y)
                  have hst2 := hst1.1.stored K (.int .i64 x.n)
                  have HXY2 : Hid (X' ++ (y :: Y) = A) := by have := HXY.out; show _ = _; rw [← this]; simp
                  have HY2 : Hid (∀ z ∈ y :: Y, x.n ≤ z) := by
                    intro z hz
                    rcases List.mem_cons.1 hz with rfl | hz
                    · omega
                    · exact HY.out z hz
                  rw [swapped (outL l q) X' Y y x.n K (by rw [HK.out, HP.out])] at hst2
                  have hg : w.heap.size + 1 ≤ g := (HO6.out.lt g rfl).1
                  go_roundw
                  case rel => exact ⟨X', y :: Y, HXY2, by rw [HK.out], HY2, hst2.1, ((bdrewN HB6.out _).setCell (p := ⟨g, K + 1, none⟩) hg _).setCell (p := ⟨g, K, none⟩) hg _⟩
                  case measure => simp [intOf]
                · have d2 : decide (x.n < y) = false := by simp; omega
                  have HNY : Hid (¬ x.n < y) := hlty
                  clear hlty
                  have HO7 : Hid (wr.ownsRow (w.heap.size + 1) 3 1 (.slice (some ⟨g, 0, none⟩) (L + 1) cp) (L + 1) (cellsI (outL l q ++ srt (askN (l.take (i + 1)) (q : Nat))))) := by
                    rw [take_more l i x hx, askN_snoc_yes _ _ _ HE.out, ← srt_ins _ x.n (X' ++ [y]) Y (HXY.out.trans HA.out) HY.out (srt_le _ x.n y X' Y (HXY.out.trans HA.out) HNY.out)]
                    show World.ownsRow _ _ _ _ _ _ _
                    simpa using HO6.out
                  have HL7 : Hid (L + 1 = P + (askN (l.take (i + 1)) (q : Nat)).length) := by
                    rw [take_more l i x hx, askN_snoc_yes _ _ _ HE.out, List.length_append]
                    have := HL.out
                    show _ = _
                    simp
                    omega
                  go_wp2
                  go_quiet (fail)
                  go_wp2
                  go_roundw
                  case rel => exact ⟨i + 1, L + 1, some ⟨g, 0, none⟩, cp, by omega, by go_num, rfl, HL7, HO7, bdrewN HB6.out _⟩
                  case measure => simp [intOf]; omega
          · have hE : (x.p != (q : Nat)) = true := by simp [he]
            have HE : Hid (¬ x.p = (q : Nat)) := he
            clear he
            go_wp2
            go_roundw
            case rel => exact ⟨i + 1, L, a4, c4, by omega, by go_num, rfl, by rw [take_more l i x hx, askN_snoc_no _ _ _ HE.out]; exact HL, by rw [take_more l i x hx, askN_snoc_no _ _ _ HE.out]; exact HO4, HB4⟩
            case measure => simp [intOf]; omega
        · obtain rfl : i = n := by omega
          have htk : l.take i = l := List.take_of_length_le (by rw [← HN.out]; exact Nat.le_refl _)
          rw [htk] at HL HO4
          go_wp2
          go_roundw
          case rel => exact ⟨q - 1, L, a4, c4, by omega, by congr 1; omega, rfl, by rw [outL_next l q hq1 hq, List.length_append, srt_len, ← HP.out]; exact HL, by rw [outL_next l q hq1 hq]; exact HO4, HB4⟩
          case measure => simp [intOf]; omega
    · obtain rfl : q = 0 := by omega
      go_wp2
      go_ret
      refine ⟨_, rfl, ?_, hB1.out.trans (HB.out.mono (by omega))⟩
      have h1 := HO.out.mono (base' := w.heap.size) (by omega)
      have h2 := HP.out
      have e : outL l 0 = ordL l := rfl
      rw [e] at h1 h2
      rw [← h2]
      exact h1
end Go.Proofs.Ytcpplafgdedklaa
