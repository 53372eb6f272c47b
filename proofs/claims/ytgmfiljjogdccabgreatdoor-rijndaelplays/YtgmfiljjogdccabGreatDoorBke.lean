import Derived.Test.YtgmfiljjogdccabGreatDoorPart00
import Derived.Test.YtgmfiljjogdccabGreatDoorBkd
namespace Go.Proofs.YtgmfiljjogdccabGreatDoor
open Go.RowKit
set_option linter.unusedVariables false
/-- When a byte is written, of those that are turned back. -/
def posD (j : Nat) : Nat := 4 * ((j / 4 + 4 - j % 4) % 4) + j % 4
def partD (X : Nat → Nat) (m j : Nat) : Nat := if posD j < m then X j else 0
theorem posD_lt (j : Nat) : posD j < 16 := by unfold posD; omega
theorem posD_at (c i : Nat) (hc : c < 4) (hi : i < 4) : posD (4 * ((c + i) % 4) + i) = 4 * c + i := by unfold posD; omega
theorem posD_inj (c i j : Nat) (hc : c < 4) (hi : i < 4) (hj : j < 16) (h : posD j = 4 * c + i) : j = 4 * ((c + i) % 4) + i := by unfold posD at h; omega
theorem partD_next (X : Nat → Nat) (c i x : Nat) (hc : c < 4) (hi : i < 4) (hx : x = X (4 * ((c + i) % 4) + i)) (j : Nat) (hj : j < 16) : (if j = 4 * ((c + i) % 4) + i then x else partD X (4 * c + i) j) = partD X (4 * c + (i + 1)) j := by
 unfold partD
 by_cases e : j = 4 * ((c + i) % 4) + i
 ·have := posD_at c i hc hi
  rw [← e] at this
  rw [if_pos e, if_pos (by omega), hx, e]
 ·rw [if_neg e]
  by_cases h : posD j < 4 * c + i
  ·rw [if_pos h, if_pos (by omega)]
  ·have : posD j ≠ 4 * c + i := fun q => e (posD_inj c i j hc hi hj q)
   rw [if_neg h, if_neg (by omega)]
set_option maxHeartbeats 6400000 in
set_option maxRecDepth 100000 in
theorem rdec_ok (g gr nk : Nat) (K : Nat → Nat) (s : W4) (w : World) (h : RefAt w g gr nk K) (hn : nk ≤ 8) (hK : ∀ i, K i < 4294967296) (hs : s.ok) :
  Calls Tryz.prog 24 #[.pointer (some ⟨g, 0, none⟩), .agg (arA (sb s))] w fun e w' => e = .returned (.agg (arA (sb (dcW (nk + 6) K s)))) ∧ Below w.heap.size w w' := by
 have HH : Hid (RefAt w g gr nk K) := h
 have HK : Hid (∀ i, K i < 4294967296) := hK
 have HS : Hid (s.ok) := hs
 have HNK : Hid (nk ≤ 8) := hn
 obtain ⟨nr, HNR⟩ : ∃ n, Hid (n = nk + 6) := ⟨_, rfl⟩
 have hnr : 1 ≤ nr ∧ nr ≤ 14 := by have := HNR.out; omega
 rw [← HNR.out]
 obtain ⟨RL, HRL⟩ : ∃ L, Hid (L = arL (sb (dcW nr K s))) := ⟨_, rfl⟩
 rw [← arL_array (sb (dcW nr K s)), ← HRL.out]
 clear h hn hK hs
 have K45 : Hid (∀ (y : W4) (A B : List Value) (r : Nat) (u : World), y.ok → A = arL (sb y) → B = arL (sb (addK K r y)) → r ≤ nr → RefAt u g gr nk K → Calls Tryz.prog 51 #[.pointer (some ⟨g, 0, none⟩), .agg A.toArray, .int .i64 (r : Nat)] u fun e u' => e = .returned (.agg B.toArray) ∧ Below u.heap.size u u') := fun y A B r u hy hA hB hr hu => by
  rw [hA, hB, arL_array, arL_array]
  exact added_ok g gr nk r K y u hu HNK.out (by have := HNR.out; omega) HK.out hy
 have K46 : Hid (∀ (y : W4) (A B : List Value) (u : World), A = arL (sb y) → B = arL (sb (unmS y)) → RefAt u g gr nk K → Calls Tryz.prog 52 #[.pointer (some ⟨g, 0, none⟩), .agg A.toArray, .agg #[.int .u8 14, .int .u8 11, .int .u8 13, .int .u8 9]] u fun e u' => e = .returned (.agg B.toArray) ∧ Below u.heap.size u u') := fun y A B u hA hB hu => by
  rw [hA, hB, arL_array, arL_array]
  exact columnsD g gr nk K y u hu
 have K19 : Hid (∀ u, RefAt u g gr nk K → Calls Tryz.prog 33 #[.pointer (some ⟨g, 0, none⟩)] u fun e u' => e = .returned (.int .i64 (nr : Nat)) ∧ u' = u) := fun u hu => by
  rw [HNR.out]
  exact rrounds2 g gr nk K u hu HNK.out
 obtain ⟨f, HF⟩ : ∃ f, Hid (f = sb s) := ⟨_, rfl⟩
 have HI : Hid (EnS w (w.heap.size + 1) f _) := ens_start w f
 rw [← HF.out]
 have HAR : Hid (A16 RL) := by show A16 RL; rw [HRL.out]; exact a16 _
 unfold arA z16 at HI
 unfold arA
 go_enter Tryz.func24, Tryz.ntmps24
 go_upto_region 1 with fail
 generalize ((w.alloc (.cells #[.int .u8 (f 0 : Nat), .int .u8 (f 1 : Nat), .int .u8 (f 2 : Nat), .int .u8 (f 3 : Nat), .int .u8 (f 4 : Nat), .int .u8 (f 5 : Nat), .int .u8 (f 6 : Nat), .int .u8 (f 7 : Nat), .int .u8 (f 8 : Nat), .int .u8 (f 9 : Nat), .int .u8 (f 10 : Nat), .int .u8 (f 11 : Nat), .int .u8 (f 12 : Nat), .int .u8 (f 13 : Nat), .int .u8 (f 14 : Nat), .int .u8 (f 15 : Nat)] 37)).alloc (.cells #[.int .u8 0, .int .u8 0, .int .u8 0, .int .u8 0, .int .u8 0, .int .u8 0, .int .u8 0, .int .u8 0, .int .u8 0, .int .u8 0, .int .u8 0, .int .u8 0, .int .u8 0, .int .u8 0, .int .u8 0, .int .u8 0] 37)) = w2 at HI ⊢
 obtain ⟨B1, HB1⟩ : ∃ b, Hid (w.heap.size + 1 = b) := ⟨_, rfl⟩
 rw [HB1.out] at HI ⊢
 have H4 : Hid (EnS w B1 (sb s) w2) := by show EnS _ _ _ _; rw [← HF.out]; exact HI.out
 clear HI
 go_wp2_with (first
  | (go_at_call 33; refine (K19.out _ (HH.out.below H4.out.old)).mono ?_; rintro e9 w9 ⟨rfl, hw9⟩; obtain rfl := hw9.symm))
 go_loopw [6] (fun rr wr => ∃ (k : Nat) (x : W4), k ≤ nr ∧ rr = .int .i64 (k : Nat) ∧ Hid (x.ok ∧ EnS w B1 (sb x) wr ∧ ((k = nr ∧ x = s) ∨ (k < nr ∧ ∃ y, x = undoS y ∧ itD K k y = itD K (nr - 1) (addK K nr s))))) (fun rr _ => (intOf rr).toNat)
 case atStart => exact ⟨nr, s, by omega, rfl, HS.out, H4.out, .inl ⟨rfl, rfl⟩⟩
 case round =>
  obtain ⟨k0, x, hk0, rfl, HX⟩ := hrel
  by_cases hk : 1 ≤ k0
  ·obtain ⟨k, rfl⟩ : ∃ k, k0 = k + 1 := ⟨k0 - 1, by omega⟩
   obtain ⟨r, HRR⟩ : ∃ r, Hid (r = k + 1) := ⟨_, rfl⟩
   have hri : (1 : Int) ≤ ((r : Nat) : Int) := by have := HRR.out; omega
   have hr1 : ((r : Nat) : Int) - 1 = ((k : Nat) : Int) := by have := HRR.out; omega
   have hwk : IntKind.i64.wrap ((k : Nat) : Int) = ((k : Nat) : Int) := wraps_i64 _ (by omega) (by omega)
   have HRN : Hid (r ≤ nr) := by show _ ≤ _; rw [HRR.out]; exact hk0
   have HM : Hid ((k + 1) - 1 = k) := by show _ = _; omega
   rw [← HRR.out]
   obtain ⟨L0, HL0⟩ : ∃ L, Hid (L = arL (sb x)) := ⟨_, rfl⟩
   obtain ⟨L1, HL1⟩ : ∃ L, Hid (L = arL (sb (addK K r x))) := ⟨_, rfl⟩
   have HA0 : Hid (A16 L0) := by show A16 L0; rw [HL0.out]; exact a16 _
   have HA1 : Hid (A16 L1) := by show A16 L1; rw [HL1.out]; exact a16 _
   have HRg : Hid (wr.rangeAt w.heap.size 0 L0) := by show World.rangeAt _ _ _ _; rw [HL0.out]; exact HX.out.2.1.b.range
   have KA : Hid (Calls Tryz.prog 51 #[.pointer (some ⟨g, 0, none⟩), .agg L0.toArray, .int .i64 (r : Nat)] wr fun e u' => e = .returned (.agg L1.toArray) ∧ Below wr.heap.size wr u') := K45.out x L0 L1 r wr HX.out.1 HL0.out HL1.out HRN.out (HH.out.below HX.out.2.1.old)
   go_wp2_with (first
    | (refine wpList_load_mid (by rfl) 37 (.tmp 3) (by rfl) w.heap.size 0 (by rfl) L0 _ HRg.out Tryz.underlying37 rfl HA0.out.sz ?_)
    | (go_at_call 51; refine KA.out.mono ?_))
   rintro e3 w3 ⟨rfl, hb3⟩
   have H3 : Hid (EnS w B1 (sb x) w3) := HX.out.2.1.below hb3
   have H7 : Hid (EnS w B1 (sb (addK K r x)) (w3.setCells w.heap.size 0 L1)) := by show EnS _ _ _ _; rw [HL1.out]; exact H3.out.store _
   have HT3 : Hid (w3.there w.heap.size 0 L1.toArray.size) := HA1.out.there H3.out.b.t
   clear hb3 KA HRg
   by_cases hkn : r < nr
   ·have hkni : ((r : Nat) : Int) < ((nr : Nat) : Int) := by omega
    have HRM : Hid ((w3.setCells w.heap.size 0 L1).rangeAt w.heap.size 0 L1) := by
     show World.rangeAt _ _ _ _
     have := H7.out.b.range
     rw [← HL1.out] at this
     exact this
    obtain ⟨ML, HML⟩ : ∃ L, Hid (L = arL (sb (unmS (addK K r x)))) := ⟨_, rfl⟩
    have HAM : Hid (A16 ML) := by show A16 ML; rw [HML.out]; exact a16 _
    have KM : Hid (Calls Tryz.prog 52 #[.pointer (some ⟨g, 0, none⟩), .agg L1.toArray, .agg #[.int .u8 14, .int .u8 11, .int .u8 13, .int .u8 9]] (w3.setCells w.heap.size 0 L1) fun e u' => e = .returned (.agg ML.toArray) ∧ Below (w3.setCells w.heap.size 0 L1).heap.size (w3.setCells w.heap.size 0 L1) u') := K46.out (addK K r x) L1 ML _ HL1.out HML.out (HH.out.below H7.out.old)
    go_wp2_with (first
     | (refine wpList_store_mid (by rfl) 37 (.tmp 3) (.tmp 20) (by rfl) w.heap.size 0 L1.toArray (by rfl) (by rfl) HT3.out HA1.out.sza HA1.out.one ?_)
     | (refine wpList_load_mid (by rfl) 37 (.tmp 3) (by rfl) w.heap.size 0 (by rfl) L1 _ HRM.out Tryz.underlying37 rfl HA1.out.sz ?_)
     | (go_at_call 52; refine KM.out.mono ?_))
    rintro e7 w7 ⟨rfl, hb7⟩
    have H7' : Hid (EnS w B1 (sb (addK K r x)) w7) := H7.out.below hb7
    have H8 : Hid (EnS w B1 (sb (unmS (addK K r x))) (w7.setCells w.heap.size 0 ML)) := by show EnS _ _ _ _; rw [HML.out]; exact H7'.out.store _
    have HT7 : Hid (w7.there w.heap.size 0 ML.toArray.size) := HAM.out.there H7'.out.b.t
    clear hb7 KM HRM
    go_upto_region 8 with (first
     | (refine wpList_store_mid (by rfl) 37 (.tmp 3) (.tmp 27) (by rfl) w.heap.size 0 ML.toArray (by rfl) (by rfl) HT7.out HAM.out.sza HAM.out.one ?_))
    generalize w7.setCells w.heap.size 0 ML = wv at H8 ⊢
    clear H7 H7' HT7 HT3 H3
    obtain ⟨x2, HX2⟩ : ∃ y, Hid (y = unmS (addK K r x)) := ⟨_, rfl⟩
    rw [← HX2.out] at H8
    have H5 : Hid (EnT w B1 wv.heap.size (sb x2) zero8 (wv.alloc (.cells z16 37))) := H8.out.alloc
    unfold z16 at H5
    obtain ⟨X, HXX⟩ : ∃ X, Hid (X = sb (undoS x2)) := ⟨_, rfl⟩
    go_wp2
    obtain ⟨bt, HBT⟩ : ∃ b, Hid (wv.heap.size = b) := ⟨_, rfl⟩
    rw [HBT.out] at H5 ⊢
    generalize (wv.alloc (.cells #[.int .u8 0, .int .u8 0, .int .u8 0, .int .u8 0, .int .u8 0, .int .u8 0, .int .u8 0, .int .u8 0, .int .u8 0, .int .u8 0, .int .u8 0, .int .u8 0, .int .u8 0, .int .u8 0, .int .u8 0, .int .u8 0] 37)) = w5 at H5 ⊢
    clear HBT
    go_loopw [8] (fun cc wr => ∃ c : Nat, c ≤ 4 ∧ cc = .int .i64 (c : Nat) ∧ Hid (EnT w B1 bt (sb x2) (partD X (4 * c)) wr)) (fun cc _ => 4 - (intOf cc).toNat)
    case atStart => exact ⟨0, by omega, rfl, H5.out.congr (fun j hj => by unfold partD; rw [if_neg (by omega)]; rfl)⟩
    case round =>
     obtain ⟨c, hc, rfl, HC⟩ := hrel
     by_cases hc4 : c < 4
     ·have hci : ((c : Nat) : Int) < 4 := by omega
      go_wp2
      go_loopw [9] (fun ii wr => ∃ i : Nat, i ≤ 4 ∧ ii = .int .i64 (i : Nat) ∧ Hid (EnT w B1 bt (sb x2) (partD X (4 * c + i)) wr)) (fun ii _ => 4 - (intOf ii).toNat)
      case atStart => exact ⟨0, by omega, rfl, HC.out⟩
      case round =>
       obtain ⟨i, hi, rfl, HR⟩ := hrel
       by_cases hi4 : i < 4
       ·obtain ⟨c4, HC4⟩ : ∃ t, Hid (t = 4 * c) := ⟨_, rfl⟩
        obtain ⟨p, HP⟩ : ∃ t, Hid (t = 4 * c + i) := ⟨_, rfl⟩
        obtain ⟨d, HD⟩ : ∃ t, Hid (t = c + i) := ⟨_, rfl⟩
        obtain ⟨e, HE⟩ : ∃ t, Hid (t = d % 4) := ⟨_, rfl⟩
        obtain ⟨e4, HE4⟩ : ∃ t, Hid (t = 4 * e) := ⟨_, rfl⟩
        obtain ⟨q, HQ⟩ : ∃ t, Hid (t = 4 * e + i) := ⟨_, rfl⟩
        have hii : ((i : Nat) : Int) < 4 := by omega
        have hc4' : (4 : Int) * ((c : Nat) : Int) = ((c4 : Nat) : Int) := by have := HC4.out; omega
        have hwc : IntKind.i64.wrap ((c4 : Nat) : Int) = ((c4 : Nat) : Int) := wraps_i64 _ (by omega) (by have := HC4.out; omega)
        have hp : ((c4 : Nat) : Int) + ((i : Nat) : Int) = ((p : Nat) : Int) := by have := HC4.out; have := HP.out; omega
        have hwp : IntKind.i64.wrap ((p : Nat) : Int) = ((p : Nat) : Int) := wraps_i64 _ (by omega) (by have := HP.out; omega)
        have hp16 : ((p : Nat) : Int) < 16 := by have := HP.out; omega
        have hd : ((c : Nat) : Int) + ((i : Nat) : Int) = ((d : Nat) : Int) := by have := HD.out; omega
        have hwd : IntKind.i64.wrap ((d : Nat) : Int) = ((d : Nat) : Int) := wraps_i64 _ (by omega) (by have := HD.out; omega)
        have he : ((d : Nat) : Int).tmod 4 = ((e : Nat) : Int) := by rw [Int.tmod_eq_emod_of_nonneg (by omega)]; have := HE.out; omega
        have he4 : (4 : Int) * ((e : Nat) : Int) = ((e4 : Nat) : Int) := by have := HE4.out; omega
        have hee : e < 4 := by have := HE.out; omega
        have hwe : IntKind.i64.wrap ((e4 : Nat) : Int) = ((e4 : Nat) : Int) := wraps_i64 _ (by omega) (by have := HE4.out; omega)
        have hq : ((e4 : Nat) : Int) + ((i : Nat) : Int) = ((q : Nat) : Int) := by have := HE4.out; have := HQ.out; omega
        have hwq : IntKind.i64.wrap ((q : Nat) : Int) = ((q : Nat) : Int) := wraps_i64 _ (by omega) (by have := HQ.out; omega)
        have hq16 : ((q : Nat) : Int) < 16 := by have := HQ.out; omega
        have hpn : p < 16 := by omega
        have hqn : q < 16 := by omega
        obtain ⟨a, HA⟩ : ∃ t, Hid (t = sb x2 p) := ⟨_, rfl⟩
        obtain ⟨z, HZ⟩ : ∃ t, Hid (t = UB a) := ⟨_, rfl⟩
        have ha : a < 256 := by rw [HA.out]; exact sb_lt _ _
        have hai : ((a : Nat) : Int) < 256 := by omega
        obtain ⟨c0, hc0⟩ := there_cell HR.out.o.t q hqn
        have hf0 := there_froz HR.out.o.t q hqn
        have hSt : wr.drew.cell? ⟨w.heap.size, p, none⟩ = some (.int .u8 (a : Nat)) ∧ wr.drew.cell? ⟨g, 258 + a, none⟩ = some (.int .u8 (z : Nat)) := by
         refine ⟨?_, ?_⟩
         ·show wr.cell? _ = _
          rw [HR.out.s.b.c p hpn, HA.out]
         ·show wr.cell? _ = _
          rw [HR.out.s.old.cell (p := ⟨g, 258 + a, none⟩) HH.out.lt, HH.out.u a ha, HZ.out]
        have HQE : Hid (q = 4 * ((c + i) % 4) + i) := by show _ = _; rw [HQ.out, HE.out, HD.out]
        have HXP : Hid (z = X (4 * ((c + i) % 4) + i)) := by
         show _ = _
         rw [HXX.out, sb_undo _ c i (by omega) (by omega), HZ.out, HA.out, HP.out]
        go_upto_region 15 with fail
        refine wp_region_noPanic ?_
        refine wp_region_till (fun u => u.cell? ⟨w.heap.size, p, none⟩ = some (.int .u8 (a : Nat)) ∧ u.cell? ⟨g, 258 + a, none⟩ = some (.int .u8 (z : Nat))) 18 (by kernel_rfl) (by decide) (by decide +kernel) (by decide +kernel) (by decide +kernel) (fun inv => ?_)
        refine tU 0 36 (.int .i64 (c : Nat)) inv rfl rfl hSt fun inv => ?_
        simp only [pU]
        refine tU 1 37 (.int .i64 (i : Nat)) inv rfl rfl hSt fun inv => ?_
        simp only [pU]
        refine tU 2 38 (.int .i64 (d : Nat)) inv rfl rfl hSt fun inv => ?_
        simp only [pU]
        refine tU 3 39 (.int .i64 (e : Nat)) inv rfl rfl hSt fun inv => ?_
        simp only [pU]
        refine tU 4 40 (.int .i64 (e4 : Nat)) inv rfl rfl hSt fun inv => ?_
        simp only [pU]
        refine tU 5 41 (.int .i64 (i : Nat)) inv rfl rfl hSt fun inv => ?_
        simp only [pU]
        refine tU 6 42 (.int .i64 (q : Nat)) inv rfl rfl hSt fun inv => ?_
        simp only [pU]
        refine tU 7 43 (.pointer (some ⟨g, 0, none⟩)) inv rfl rfl hSt fun inv => ?_
        simp only [pU]
        refine tU 8 44 (.int .i64 (c : Nat)) inv rfl rfl hSt fun inv => ?_
        simp only [pU]
        refine tU 9 45 (.int .i64 (c4 : Nat)) inv rfl rfl hSt fun inv => ?_
        simp only [pU]
        refine tU 10 46 (.int .i64 (i : Nat)) inv rfl rfl hSt fun inv => ?_
        simp only [pU]
        refine tU 11 47 (.int .i64 (p : Nat)) inv rfl rfl hSt fun inv => ?_
        simp only [pU]
        refine tU 12 48 (.pointer (some ⟨w.heap.size, p, none⟩)) inv rfl rfl hSt fun inv => ?_
        simp only [pU]
        refine tT 13 49 (.int .u8 (a : Nat)) inv rfl rfl (by decide +kernel) (hSt) (Or.inl ⟨by rfl, fun w' hS' => by have q1 := hS'.1; go_simp⟩) (fun inv => ?_)
        simp only [pU]
        refine tU 14 50 (.pointer (some ⟨g, 0, none⟩)) inv rfl rfl hSt fun inv => ?_
        simp only [pU]
        refine tU 15 51 (.pointer (some ⟨g, 258, none⟩)) inv rfl rfl hSt fun inv => ?_
        simp only [pU]
        refine tU 16 52 (.pointer (some ⟨g, 258 + a, none⟩)) inv rfl rfl hSt fun inv => ?_
        simp only [pU]
        refine tT 17 53 (.int .u8 (z : Nat)) inv rfl rfl (by decide +kernel) (hSt) (Or.inl ⟨by rfl, fun w' hS' => by have q1 := hS'.2; go_simp⟩) (fun inv => ?_)
        simp only [pU]
        refine till_tail (i := 18) (by decide +kernel) (by decide) rfl (fun Kx hK => ?_)
        rw [if_pos (by kernel_rfl)]
        go_simp
        refine hK.out _ _ ?_
        clear hK Kx
        try simp only [Act.put, pU]
        refine till_tail (i := 19) (by decide +kernel) (by decide) rfl (fun Kx hK => ?_)
        rw [if_pos (by kernel_rfl)]
        have q1 : wr.drew.cell? ⟨bt, q, none⟩ = some c0 := hc0
        have q2 : wr.drew.frozen? ⟨bt, q, none⟩ = false := hf0
        go_simp
        refine hK.out _ _ ?_
        clear hK Kx
        refine till_done (by decide +kernel) ?_ _
        refine NoPanic.normal ?_
        clear q1 q2 hSt hc0 hf0
        have HN : Hid (EnT w B1 bt (sb x2) (partD X (4 * c + (i + 1))) ((wr.setCell ⟨bt, q, none⟩ (.int .u8 (z : Nat))).drew)) := by
         refine (HR.out.set q z hqn).congr (fun j hj => ?_)
         rw [HQE.out]
         exact partD_next X c i z hc4 hi4 HXP.out j hj
        generalize (wr.setCell ⟨bt, q, none⟩ (.int .u8 (z : Nat))).drew = wn at HN ⊢
        go_wp2
        refine ⟨⟨i + 1, by omega, rfl, HN.out⟩, by simp only [intOf]; omega⟩
       ·obtain rfl : i = 4 := by omega
        clear hi hi4
        go_wp2
        refine ⟨⟨c + 1, by omega, rfl, HR.out.congr (fun j hj => by rw [show 4 * (c + 1) = 4 * c + 4 by omega])⟩, by simp only [intOf]; omega⟩
     ·obtain rfl : c = 4 := by omega
      have H6 : Hid (EnT w B1 bt (sb x2) (sb (undoS x2)) wr) := HC.out.congr (fun j hj => by unfold partD; rw [if_pos (by have := posD_lt j; omega), HXX.out])
      clear HC hc hc4 H5
      obtain ⟨TL, HTL⟩ : ∃ L, Hid (L = arL (sb (undoS x2))) := ⟨_, rfl⟩
      have HAT : Hid (A16 TL) := by show A16 TL; rw [HTL.out]; exact a16 _
      have HRT : Hid (wr.rangeAt bt 0 TL) := by show World.rangeAt _ _ _ _; rw [HTL.out]; exact H6.out.o.range
      have HX9 : Hid (EnS w B1 (sb (undoS x2)) (wr.setCells w.heap.size 0 TL)) := by show EnS _ _ _ _; rw [HTL.out]; exact H6.out.s.store _
      have HT9 : Hid (wr.there w.heap.size 0 TL.toArray.size) := HAT.out.there H6.out.s.b.t
      go_wp2_with (first
       | (refine wpList_load_mid (by rfl) 37 (.tmp 7) (by rfl) bt 0 (by rfl) TL _ HRT.out Tryz.underlying37 rfl HAT.out.sz ?_)
       | (refine wpList_store_mid (by rfl) 37 (.tmp 3) (.tmp 55) (by rfl) w.heap.size 0 TL.toArray (by rfl) (by rfl) HT9.out HAT.out.sza HAT.out.one ?_))
      refine ⟨⟨k, undoS x2, by omega, rfl, undoS_ok _, HX9.out, .inr ⟨by omega, x2, rfl, ?_⟩⟩, by simp only [intOf]; omega⟩
      rcases HX.out.2.2 with ⟨h1, _⟩ | ⟨h1, y, hy1, hy2⟩
      ·have := HRR.out; omega
      ·rw [HX2.out, HRR.out, hy1]
       rw [itD_succ] at hy2
       exact hy2
   ·have HRNE : Hid (r = nr) := by show _ = _; have := HRN.out; omega
    have hkle : ((nr : Nat) : Int) ≤ ((r : Nat) : Int) := by have := HRNE.out; omega
    go_upto_region 8 with (first
     | (refine wpList_store_mid (by rfl) 37 (.tmp 3) (.tmp 20) (by rfl) w.heap.size 0 L1.toArray (by rfl) (by rfl) HT3.out HA1.out.sza HA1.out.one ?_))
    have H8 : Hid (EnS w B1 (sb (addK K r x)) (w3.setCells w.heap.size 0 L1)) := H7.out
    generalize w3.setCells w.heap.size 0 L1 = wv at H8 ⊢
    clear H7 HT3 H3
    obtain ⟨x2, HX2⟩ : ∃ y, Hid (y = addK K r x) := ⟨_, rfl⟩
    rw [← HX2.out] at H8
    have H5 : Hid (EnT w B1 wv.heap.size (sb x2) zero8 (wv.alloc (.cells z16 37))) := H8.out.alloc
    unfold z16 at H5
    obtain ⟨X, HXX⟩ : ∃ X, Hid (X = sb (undoS x2)) := ⟨_, rfl⟩
    go_wp2
    obtain ⟨bt, HBT⟩ : ∃ b, Hid (wv.heap.size = b) := ⟨_, rfl⟩
    rw [HBT.out] at H5 ⊢
    generalize (wv.alloc (.cells #[.int .u8 0, .int .u8 0, .int .u8 0, .int .u8 0, .int .u8 0, .int .u8 0, .int .u8 0, .int .u8 0, .int .u8 0, .int .u8 0, .int .u8 0, .int .u8 0, .int .u8 0, .int .u8 0, .int .u8 0, .int .u8 0] 37)) = w5 at H5 ⊢
    clear HBT
    go_loopw [8] (fun cc wr => ∃ c : Nat, c ≤ 4 ∧ cc = .int .i64 (c : Nat) ∧ Hid (EnT w B1 bt (sb x2) (partD X (4 * c)) wr)) (fun cc _ => 4 - (intOf cc).toNat)
    case atStart => exact ⟨0, by omega, rfl, H5.out.congr (fun j hj => by unfold partD; rw [if_neg (by omega)]; rfl)⟩
    case round =>
     obtain ⟨c, hc, rfl, HC⟩ := hrel
     by_cases hc4 : c < 4
     ·have hci : ((c : Nat) : Int) < 4 := by omega
      go_wp2
      go_loopw [9] (fun ii wr => ∃ i : Nat, i ≤ 4 ∧ ii = .int .i64 (i : Nat) ∧ Hid (EnT w B1 bt (sb x2) (partD X (4 * c + i)) wr)) (fun ii _ => 4 - (intOf ii).toNat)
      case atStart => exact ⟨0, by omega, rfl, HC.out⟩
      case round =>
       obtain ⟨i, hi, rfl, HR⟩ := hrel
       by_cases hi4 : i < 4
       ·obtain ⟨c4, HC4⟩ : ∃ t, Hid (t = 4 * c) := ⟨_, rfl⟩
        obtain ⟨p, HP⟩ : ∃ t, Hid (t = 4 * c + i) := ⟨_, rfl⟩
        obtain ⟨d, HD⟩ : ∃ t, Hid (t = c + i) := ⟨_, rfl⟩
        obtain ⟨e, HE⟩ : ∃ t, Hid (t = d % 4) := ⟨_, rfl⟩
        obtain ⟨e4, HE4⟩ : ∃ t, Hid (t = 4 * e) := ⟨_, rfl⟩
        obtain ⟨q, HQ⟩ : ∃ t, Hid (t = 4 * e + i) := ⟨_, rfl⟩
        have hii : ((i : Nat) : Int) < 4 := by omega
        have hc4' : (4 : Int) * ((c : Nat) : Int) = ((c4 : Nat) : Int) := by have := HC4.out; omega
        have hwc : IntKind.i64.wrap ((c4 : Nat) : Int) = ((c4 : Nat) : Int) := wraps_i64 _ (by omega) (by have := HC4.out; omega)
        have hp : ((c4 : Nat) : Int) + ((i : Nat) : Int) = ((p : Nat) : Int) := by have := HC4.out; have := HP.out; omega
        have hwp : IntKind.i64.wrap ((p : Nat) : Int) = ((p : Nat) : Int) := wraps_i64 _ (by omega) (by have := HP.out; omega)
        have hp16 : ((p : Nat) : Int) < 16 := by have := HP.out; omega
        have hd : ((c : Nat) : Int) + ((i : Nat) : Int) = ((d : Nat) : Int) := by have := HD.out; omega
        have hwd : IntKind.i64.wrap ((d : Nat) : Int) = ((d : Nat) : Int) := wraps_i64 _ (by omega) (by have := HD.out; omega)
        have he : ((d : Nat) : Int).tmod 4 = ((e : Nat) : Int) := by rw [Int.tmod_eq_emod_of_nonneg (by omega)]; have := HE.out; omega
        have he4 : (4 : Int) * ((e : Nat) : Int) = ((e4 : Nat) : Int) := by have := HE4.out; omega
        have hee : e < 4 := by have := HE.out; omega
        have hwe : IntKind.i64.wrap ((e4 : Nat) : Int) = ((e4 : Nat) : Int) := wraps_i64 _ (by omega) (by have := HE4.out; omega)
        have hq : ((e4 : Nat) : Int) + ((i : Nat) : Int) = ((q : Nat) : Int) := by have := HE4.out; have := HQ.out; omega
        have hwq : IntKind.i64.wrap ((q : Nat) : Int) = ((q : Nat) : Int) := wraps_i64 _ (by omega) (by have := HQ.out; omega)
        have hq16 : ((q : Nat) : Int) < 16 := by have := HQ.out; omega
        have hpn : p < 16 := by omega
        have hqn : q < 16 := by omega
        obtain ⟨a, HA⟩ : ∃ t, Hid (t = sb x2 p) := ⟨_, rfl⟩
        obtain ⟨z, HZ⟩ : ∃ t, Hid (t = UB a) := ⟨_, rfl⟩
        have ha : a < 256 := by rw [HA.out]; exact sb_lt _ _
        have hai : ((a : Nat) : Int) < 256 := by omega
        obtain ⟨c0, hc0⟩ := there_cell HR.out.o.t q hqn
        have hf0 := there_froz HR.out.o.t q hqn
        have hSt : wr.drew.cell? ⟨w.heap.size, p, none⟩ = some (.int .u8 (a : Nat)) ∧ wr.drew.cell? ⟨g, 258 + a, none⟩ = some (.int .u8 (z : Nat)) := by
         refine ⟨?_, ?_⟩
         ·show wr.cell? _ = _
          rw [HR.out.s.b.c p hpn, HA.out]
         ·show wr.cell? _ = _
          rw [HR.out.s.old.cell (p := ⟨g, 258 + a, none⟩) HH.out.lt, HH.out.u a ha, HZ.out]
        have HQE : Hid (q = 4 * ((c + i) % 4) + i) := by show _ = _; rw [HQ.out, HE.out, HD.out]
        have HXP : Hid (z = X (4 * ((c + i) % 4) + i)) := by
         show _ = _
         rw [HXX.out, sb_undo _ c i (by omega) (by omega), HZ.out, HA.out, HP.out]
        go_upto_region 15 with fail
        refine wp_region_noPanic ?_
        refine wp_region_till (fun u => u.cell? ⟨w.heap.size, p, none⟩ = some (.int .u8 (a : Nat)) ∧ u.cell? ⟨g, 258 + a, none⟩ = some (.int .u8 (z : Nat))) 18 (by kernel_rfl) (by decide) (by decide +kernel) (by decide +kernel) (by decide +kernel) (fun inv => ?_)
        refine tU 0 36 (.int .i64 (c : Nat)) inv rfl rfl hSt fun inv => ?_
        simp only [pU]
        refine tU 1 37 (.int .i64 (i : Nat)) inv rfl rfl hSt fun inv => ?_
        simp only [pU]
        refine tU 2 38 (.int .i64 (d : Nat)) inv rfl rfl hSt fun inv => ?_
        simp only [pU]
        refine tU 3 39 (.int .i64 (e : Nat)) inv rfl rfl hSt fun inv => ?_
        simp only [pU]
        refine tU 4 40 (.int .i64 (e4 : Nat)) inv rfl rfl hSt fun inv => ?_
        simp only [pU]
        refine tU 5 41 (.int .i64 (i : Nat)) inv rfl rfl hSt fun inv => ?_
        simp only [pU]
        refine tU 6 42 (.int .i64 (q : Nat)) inv rfl rfl hSt fun inv => ?_
        simp only [pU]
        refine tU 7 43 (.pointer (some ⟨g, 0, none⟩)) inv rfl rfl hSt fun inv => ?_
        simp only [pU]
        refine tU 8 44 (.int .i64 (c : Nat)) inv rfl rfl hSt fun inv => ?_
        simp only [pU]
        refine tU 9 45 (.int .i64 (c4 : Nat)) inv rfl rfl hSt fun inv => ?_
        simp only [pU]
        refine tU 10 46 (.int .i64 (i : Nat)) inv rfl rfl hSt fun inv => ?_
        simp only [pU]
        refine tU 11 47 (.int .i64 (p : Nat)) inv rfl rfl hSt fun inv => ?_
        simp only [pU]
        refine tU 12 48 (.pointer (some ⟨w.heap.size, p, none⟩)) inv rfl rfl hSt fun inv => ?_
        simp only [pU]
        refine tT 13 49 (.int .u8 (a : Nat)) inv rfl rfl (by decide +kernel) (hSt) (Or.inl ⟨by rfl, fun w' hS' => by have q1 := hS'.1; go_simp⟩) (fun inv => ?_)
        simp only [pU]
        refine tU 14 50 (.pointer (some ⟨g, 0, none⟩)) inv rfl rfl hSt fun inv => ?_
        simp only [pU]
        refine tU 15 51 (.pointer (some ⟨g, 258, none⟩)) inv rfl rfl hSt fun inv => ?_
        simp only [pU]
        refine tU 16 52 (.pointer (some ⟨g, 258 + a, none⟩)) inv rfl rfl hSt fun inv => ?_
        simp only [pU]
        refine tT 17 53 (.int .u8 (z : Nat)) inv rfl rfl (by decide +kernel) (hSt) (Or.inl ⟨by rfl, fun w' hS' => by have q1 := hS'.2; go_simp⟩) (fun inv => ?_)
        simp only [pU]
        refine till_tail (i := 18) (by decide +kernel) (by decide) rfl (fun Kx hK => ?_)
        rw [if_pos (by kernel_rfl)]
        go_simp
        refine hK.out _ _ ?_
        clear hK Kx
        try simp only [Act.put, pU]
        refine till_tail (i := 19) (by decide +kernel) (by decide) rfl (fun Kx hK => ?_)
        rw [if_pos (by kernel_rfl)]
        have q1 : wr.drew.cell? ⟨bt, q, none⟩ = some c0 := hc0
        have q2 : wr.drew.frozen? ⟨bt, q, none⟩ = false := hf0
        go_simp
        refine hK.out _ _ ?_
        clear hK Kx
        refine till_done (by decide +kernel) ?_ _
        refine NoPanic.normal ?_
        clear q1 q2 hSt hc0 hf0
        have HN : Hid (EnT w B1 bt (sb x2) (partD X (4 * c + (i + 1))) ((wr.setCell ⟨bt, q, none⟩ (.int .u8 (z : Nat))).drew)) := by
         refine (HR.out.set q z hqn).congr (fun j hj => ?_)
         rw [HQE.out]
         exact partD_next X c i z hc4 hi4 HXP.out j hj
        generalize (wr.setCell ⟨bt, q, none⟩ (.int .u8 (z : Nat))).drew = wn at HN ⊢
        go_wp2
        refine ⟨⟨i + 1, by omega, rfl, HN.out⟩, by simp only [intOf]; omega⟩
       ·obtain rfl : i = 4 := by omega
        clear hi hi4
        go_wp2
        refine ⟨⟨c + 1, by omega, rfl, HR.out.congr (fun j hj => by rw [show 4 * (c + 1) = 4 * c + 4 by omega])⟩, by simp only [intOf]; omega⟩
     ·obtain rfl : c = 4 := by omega
      have H6 : Hid (EnT w B1 bt (sb x2) (sb (undoS x2)) wr) := HC.out.congr (fun j hj => by unfold partD; rw [if_pos (by have := posD_lt j; omega), HXX.out])
      clear HC hc hc4 H5
      obtain ⟨TL, HTL⟩ : ∃ L, Hid (L = arL (sb (undoS x2))) := ⟨_, rfl⟩
      have HAT : Hid (A16 TL) := by show A16 TL; rw [HTL.out]; exact a16 _
      have HRT : Hid (wr.rangeAt bt 0 TL) := by show World.rangeAt _ _ _ _; rw [HTL.out]; exact H6.out.o.range
      have HX9 : Hid (EnS w B1 (sb (undoS x2)) (wr.setCells w.heap.size 0 TL)) := by show EnS _ _ _ _; rw [HTL.out]; exact H6.out.s.store _
      have HT9 : Hid (wr.there w.heap.size 0 TL.toArray.size) := HAT.out.there H6.out.s.b.t
      go_wp2_with (first
       | (refine wpList_load_mid (by rfl) 37 (.tmp 7) (by rfl) bt 0 (by rfl) TL _ HRT.out Tryz.underlying37 rfl HAT.out.sz ?_)
       | (refine wpList_store_mid (by rfl) 37 (.tmp 3) (.tmp 55) (by rfl) w.heap.size 0 TL.toArray (by rfl) (by rfl) HT9.out HAT.out.sza HAT.out.one ?_))
      refine ⟨⟨k, undoS x2, by omega, rfl, undoS_ok _, HX9.out, .inr ⟨by omega, x2, rfl, ?_⟩⟩, by simp only [intOf]; omega⟩
      rcases HX.out.2.2 with ⟨h1, h2⟩ | ⟨h1, _⟩
      ·rw [HX2.out, h2, HRNE.out, show nr - 1 = k by have := HRR.out; omega]
      ·have := HRR.out; omega
  ·obtain rfl : k0 = 0 := by omega
   obtain ⟨L0, HL0⟩ : ∃ L, Hid (L = arL (sb x)) := ⟨_, rfl⟩
   have HA0 : Hid (A16 L0) := by show A16 L0; rw [HL0.out]; exact a16 _
   have HRE : Hid (RL = arL (sb (addK K 0 x))) := by
    show _ = _
    rcases HX.out.2.2 with ⟨h1, _⟩ | ⟨_, y, hy1, hy2⟩
    ·omega
    ·rw [itD_zero] at hy2
     rw [HRL.out, dcW, ← hy2, hy1]
   have HRg : Hid (wr.rangeAt w.heap.size 0 L0) := by show World.rangeAt _ _ _ _; rw [HL0.out]; exact HX.out.2.1.b.range
   have KA : Hid (Calls Tryz.prog 51 #[.pointer (some ⟨g, 0, none⟩), .agg L0.toArray, .int .i64 0] wr fun e u' => e = .returned (.agg RL.toArray) ∧ Below wr.heap.size wr u') := K45.out x L0 RL 0 wr HX.out.1 HL0.out HRE.out (by omega) (HH.out.below HX.out.2.1.old)
   clear hk hk0
   go_wp2_with (first
    | (refine wpList_load_mid (by rfl) 37 (.tmp 3) (by rfl) w.heap.size 0 (by rfl) L0 _ HRg.out Tryz.underlying37 rfl HA0.out.sz ?_)
    | (go_at_call 51; refine KA.out.mono ?_))
   rintro e3 w3 ⟨rfl, hb3⟩
   have H3 : Hid (EnS w B1 (sb x) w3) := HX.out.2.1.below hb3
   have HTh : Hid (w3.there B1 0 RL.toArray.size) := HAR.out.there H3.out.res
   clear hb3
   go_wp2_with (first
    | (refine wpList_store_mid (by rfl) 37 (.tmp 4) (.tmp 58) (by rfl) B1 0 RL.toArray (by rfl) (by rfl) HTh.out HAR.out.sza HAR.out.one ?_))
   refine ret_array RL Tryz.results24 rfl ?_ Tryz.underlying37 rfl HAR.out.sz ⟨rfl, ?_⟩
   ·exact World.rangeAt_setCells_same _ _ _ _ (by rw [HAR.out.len]; exact H3.out.res)
   ·exact belowB_setCells _ (Nat.le_of_lt H3.out.lt.1) _ _ _ H3.out.old
end Go.Proofs.YtgmfiljjogdccabGreatDoor
