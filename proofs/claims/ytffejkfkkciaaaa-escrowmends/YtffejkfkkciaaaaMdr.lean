import Derived.Test.YtffejkfkkciaaaaMdp
import Derived.Test.YtffejkfkkciaaaaEnt
import Derived.Test.YtffejkfkkciaaaaRdd
namespace Go.Proofs.Ytffejkfkkciaaaa
open Go.RowKit
set_option linter.unusedVariables false
set_option linter.unusedSimpArgs false
/-- A share that was read, its values at g. -/
def partL (m : List F) (g c : Nat) (d : Nat) : List Value := tds m ++ [.slice (some ⟨g, 0, none⟩) ((m.getD 4 0).1 + 4) c, .int .i64 (d : Nat)]
set_option maxHeartbeats 1600000 in
set_option maxRecDepth 100000 in
theorem line_ok (m : List F) (g c d : Nat) (w : World) (hm : okF m) (hz : sumL m = [0, 0, 0, 0]) (hn : m.length ≤ 78) (h : Rx w g ((m.drop 5).take ((m.getD 4 0).1 + 4))) : Calls Try.prog 5 #[.agg (partL m g c d).toArray] w fun e w' => Hid (e = .returned (.string (WLs m)) ∧ Below w.heap.size w w') := by
  obtain ⟨M, HMM⟩ : ∃ M, Hid (w.heap.size = M) := ⟨_, rfl⟩
  obtain ⟨w1, hw1⟩ : ∃ u, u = w.alloc (.cells (partL m g c d).toArray 27) := ⟨_, rfl⟩
  have H1 : Hid (Bx w1 M 27 (partL m g c d) ∧ Below M w w1 ∧ M < w1.heap.size) := by
    rw [hw1, ← HMM.out]
    exact ⟨Bx.new w 27 _, (Below.refl _ _).alloc (Nat.le_refl _) _, by simp⟩
  have H13 : Hid (∀ u, Rx u g ((m.drop 5).take ((m.getD 4 0).1 + 4)) → Calls Try.prog 13 #[.agg (tds m).toArray, .slice (some ⟨g, 0, none⟩) ((m.getD 4 0).1 + 4) c] u fun e w' => Hid (∃ g9 c9, e = .returned (.slice (some ⟨g9, 0, none⟩) m.length c9) ∧ (m.length ≤ c9 ∧ c9 ≤ 9223372036854775807) ∧ Rx w' g9 m ∧ Below u.heap.size u w')) := fun u hu => bytes_ok g c m u hm hz hu
  have HRX : Hid (Rx w1 g ((m.drop 5).take ((m.getD 4 0).1 + 4))) := h.below (by rw [HMM.out]; exact H1.out.2.1)
  have H12 : Hid (∀ g c u, m.length ≤ c → c ≤ 9223372036854775807 → Rx u g m → Calls Try.prog 12 #[.slice (some ⟨g, 0, none⟩) m.length c] u fun e w' => e = .returned (.string (WLs m)) ∧ Below u.heap.size u w') := fun g c u h1 h2 h3 => rwordsF_ok g 0 m.length c m u rfl (by omega) h1 h2 h3.rw
  have hrg : w1.rangeAt M 0 (tds m) := fun j u hj => by
    have q : (partL m g c d)[j]? = some u := by
      unfold partL
      rw [List.getElem?_append_left (List.getElem?_eq_some_iff.1 hj).1]
      exact hj
    rw [Nat.zero_add]
    exact H1.out.1.cell j u q
  have hc4 : w1.cell? ⟨M, 4, none⟩ = some (.slice (some ⟨g, 0, none⟩) ((m.getD 4 0).1 + 4) c) := H1.out.1.cell 4 _ rfl
  have hi7 : (Try.prog.info? 24).map (·.size) = some (tds m).length := by kernel_rfl
  have HP : Hid ((partL m g c d).toArray = #[.int .u16 (setN m : Nat), .int .i64 ((m.getD 2 0).1 : Nat), .int .i64 ((m.getD 3 0).1 : Nat), .int .i64 ((m.getD 4 0).1 : Nat), .slice (some ⟨g, 0, none⟩) ((m.getD 4 0).1 + 4) c, .int .i64 (d : Nat)]) := by show _ = _; rfl
  obtain ⟨vl, HVL⟩ : ∃ q, Hid ((m.drop 5).take ((m.getD 4 0).1 + 4) = q) := ⟨_, rfl⟩
  rw [HVL.out] at HRX H13
  obtain ⟨T, HT⟩ : ∃ t, Hid (tds m = t) := ⟨_, rfl⟩
  rw [HT.out] at hrg hi7 H13
  rw [HP.out] at hw1 ⊢
  obtain ⟨s4, HS4⟩ : ∃ q : Nat, Hid ((m.getD 4 0).1 = q) := ⟨_, rfl⟩
  rw [HS4.out] at hw1 hc4 H13 ⊢
  obtain ⟨n, HNN⟩ : ∃ q : Nat, Hid (m.length = q) := ⟨_, rfl⟩
  rw [HNN.out] at H13 H12
  generalize (m.getD 2 0).1 = nd at hw1 ⊢
  generalize (m.getD 3 0).1 = ix at hw1 ⊢
  generalize setN m = sn at hw1 ⊢
  clear h hm hz hn
  go_enter Try.func5, Try.ntmps5
  go_upto_region 1 with fail
  rw [← hw1, HMM.out]
  clear hw1
  go_wp2_with (first
    | (refine wpList_load_mid (by rfl) 24 (.tmp 3) (by rfl) M 0 (by rfl) T _ hrg Try.underlying24 rfl hi7 ?_)
    | (go_at_call 13; refine (H13.out w1 HRX.out).mono ?_; intro e2 w2 hh; obtain ⟨g9, c9, rfl, q1, q2, q3⟩ := hh.out; have H2 : Hid ((n ≤ c9 ∧ c9 ≤ 9223372036854775807) ∧ Rx w2 g9 m ∧ Below w1.heap.size w1 w2) := ⟨q1, q2, q3⟩; clear hh q1 q2 q3)
    | (go_at_call 12; refine (H12.out g9 c9 w2 H2.out.1.1 H2.out.1.2 H2.out.2.1).mono ?_; rintro e3 w3 ⟨rfl, hb3⟩; have H3 : Hid (Below w2.heap.size w2 w3) := hb3; clear hb3))
  go_ret
  refine ⟨rfl, ?_⟩
  have e2 : Below M w w2 := H1.out.2.1.trans (H2.out.2.2.mono (Nat.le_of_lt H1.out.2.2))
  rw [HMM.out]
  exact e2.trans (H3.out.mono (bel_size e2 HMM.out))
def Z6l : List Value := [.int .u16 0, .int .i64 0, .int .i64 0, .int .i64 0, .slice none 0 0, .int .i64 0]
/-- What the document's Mend says. -/
def RmdQ (s : ByteArray) (M : Nat) (e : Ending) (w w' : World) : Prop :=
  ((∃ k : Nat, MBad s k ∧ e = .returned (.tuple #[.agg Z6l.toArray, .int .i64 (k : Nat)])) ∨ ∃ m d g c, MGood s m d ∧ e = .returned (.tuple #[.agg (partL m g c d).toArray, .int .i64 0]) ∧ Rx w' g ((m.drop 5).take ((m.getD 4 0).1 + 4))) ∧ Below M w w'
theorem read_2 (s : ByteArray) (w : World) (h : s.size ≤ 1024) (h5 : ¬ all5 (txL s)) : Calls Try.prog 9 #[.string s] w fun e w' => Hid (e = .returned (.tuple #[.slice none 0 0, .bool false]) ∧ Below w.heap.size w w') :=
  (read_ok s h w).mono (by
    rintro e w' ⟨q, hb⟩
    rcases q with ⟨_, rfl⟩ | ⟨q, _⟩
    · exact ⟨rfl, hb⟩
    · exact absurd q h5)
theorem read_3 (s : ByteArray) (w : World) (h : s.size ≤ 1024) (h5 : all5 (txL s)) : Calls Try.prog 9 #[.string s] w fun e w' => Hid (∃ a c, e = .returned (.tuple #[.slice a (tx s).length c, .bool true]) ∧ w'.ownsRow w.heap.size 5 1 (.slice a (tx s).length c) (tx s).length (fc (tx s)) ∧ Below w.heap.size w w') :=
  (read_ok s h w).mono (by
    rintro e w' ⟨q, hb⟩
    rcases q with ⟨q, _⟩ | ⟨_, v, rfl, ho⟩
    · exact absurd h5 q
    · obtain ⟨a, c, rfl⟩ := own_slice ho
      exact ⟨a, c, rfl, ho, hb⟩)
theorem one6 : ∀ v ∈ Z6l, v.oneCell' = true := by intro v hv; simp [Z6l] at hv; rcases hv with rfl | rfl | rfl | rfl | rfl | rfl <;> rfl
theorem six6 : (Try.prog.info? 27).map (·.size) = some Z6l.length := by kernel_rfl
set_option maxHeartbeats 6400000 in
set_option maxRecDepth 100000 in
theorem rmend_ok (s : ByteArray) (w : World) : Calls Try.prog 4 #[.string s] w fun e w' => RmdQ s w.heap.size e w w' := by
  obtain ⟨M, HMM⟩ : ∃ M, Hid (w.heap.size = M) := ⟨_, rfl⟩
  obtain ⟨w0, hw0⟩ : ∃ u, u = w.alloc (.cells Z6l.toArray 27) := ⟨_, rfl⟩
  have H0 : Hid (Bx w0 M 27 Z6l ∧ Below M w w0 ∧ w0.heap.size = M + 1) := by
    rw [hw0, ← HMM.out]
    exact ⟨Bx.new w 27 Z6l, (Below.refl _ _).alloc (Nat.le_refl _) _, by simp⟩
  have HKP : Hid (∀ u, Below w0.heap.size w0 u → Bx u M 27 Z6l ∧ Below M w u ∧ M < u.heap.size) := fun u hu => ⟨H0.out.1.below hu, H0.out.2.1.trans (hu.mono (by rw [H0.out.2.2]; omega)), (H0.out.1.below hu).lt⟩
  have hone := one6
  have hz6 := six6
  have HEN : Hid (∀ (k : Nat) u v, MBad s k → Bx u M 27 Z6l → Below M w u → Bx v M 27 Z6l → u.grownBy v (some M) → RmdQ s w.heap.size (.returned (.tuple #[.agg Z6l.toArray, .int .i64 (k : Nat)])) w v) := fun k u v h1 h2 h3 h4 h5 => ⟨Or.inl ⟨k, h1, rfl⟩, by rw [HMM.out]; exact h3.trans (below_gb h5 (Nat.le_of_lt h2.lt) (Nat.le_refl _))⟩
  by_cases h1 : 1024 < s.size
  case pos =>
    have HB : Hid (MBad s 4) := Or.inl ⟨h1, rfl⟩
    have g1 : (1024 : Int) < (s.size : Int) := by omega
    clear h1
    go_enter Try.func4, Try.ntmps4
    go_upto_region 1 with fail
    rw [show w.alloc (.cells #[.int .u16 0, .int .i64 0, .int .i64 0, .int .i64 0, .slice none 0 0, .int .i64 0] 27) = w0 from hw0.symm, HMM.out]
    clear hw0
    go_wp2_with (refine wpList_store_bx (by rfl) 27 (.tmp 2) (.tmp 15) (by rfl) Z6l Z6l M (by rfl) (by rfl) H0.out.1 rfl hz6 hone ?_; intro w9 hb9 hg9)
    exact ret_agg_tmp (b := M) Z6l _ rfl rfl rfl hb9.range Try.underlying27 rfl hz6 (HEN.out 4 w0 w9 HB.out H0.out.1 H0.out.2.1 hb9 hg9)
  case neg =>
  have g1 : ¬ (1024 : Int) < (s.size : Int) := by omega
  by_cases h5 : all5 (txL s)
  case neg =>
    have HB : Hid (MBad s 112) := Or.inr ⟨by omega, Or.inl ⟨h5, rfl⟩⟩
    have H9 : Hid (Calls Try.prog 9 #[.string s] w0 fun e w' => Hid (e = .returned (.tuple #[.slice none 0 0, .bool false]) ∧ Below w0.heap.size w0 w')) := read_2 s w0 (by omega) h5
    clear h1 h5
    go_enter Try.func4, Try.ntmps4
    go_upto_region 1 with fail
    rw [show w.alloc (.cells #[.int .u16 0, .int .i64 0, .int .i64 0, .int .i64 0, .slice none 0 0, .int .i64 0] 27) = w0 from hw0.symm, HMM.out]
    clear hw0
    go_upto_region 5 with (go_at_call 9; refine H9.out.mono ?_; intro e1 w1 hh; obtain ⟨rfl, q⟩ := hh.out; have HK1 : Hid (Bx w1 M 27 Z6l ∧ Below M w w1 ∧ M < w1.heap.size) := HKP.out w1 q; clear hh q)
    go_wp2_with (refine wpList_store_bx (by rfl) 27 (.tmp 2) (.tmp 23) (by rfl) Z6l Z6l M (by rfl) (by rfl) HK1.out.1 rfl hz6 hone ?_; intro w9 hb9 hg9)
    exact ret_agg_tmp (b := M) Z6l _ rfl rfl rfl hb9.range Try.underlying27 rfl hz6 (HEN.out 112 w1 w9 HB.out HK1.out.1 HK1.out.2.1 hb9 hg9)
  case pos =>
  have HS : Hid (s.size ≤ 1024 ∧ all5 (txL s)) := ⟨by omega, h5⟩
  have H9 : Hid (Calls Try.prog 9 #[.string s] w0 fun e w' => Hid (∃ a c, e = .returned (.tuple #[.slice a (tx s).length c, .bool true]) ∧ w'.ownsRow w0.heap.size 5 1 (.slice a (tx s).length c) (tx s).length (fc (tx s)) ∧ Below w0.heap.size w0 w')) := read_3 s w0 (by omega) h5
  obtain ⟨l, HL⟩ : ∃ l, Hid (tx s = l) := ⟨_, rfl⟩
  obtain ⟨n, HN⟩ : ∃ n, Hid (l.length = n) := ⟨_, rfl⟩
  rw [HL.out, HN.out] at H9
  clear h1 h5
  by_cases hab : n < 14 ∨ 78 < n
  case pos =>
    have HB : Hid (MBad s 113) := Or.inr ⟨HS.out.1, Or.inr ⟨HS.out.2, rfl, by
      rw [HL.out, HN.out]
      rcases hab with q | q
      · exact Or.inl q
      · exact Or.inr (Or.inl q)⟩⟩
    by_cases ha : n < 14
    · have g2 : (n : Int) < 14 := by omega
      clear hab ha
      go_enter Try.func4, Try.ntmps4
      go_upto_region 1 with fail
      rw [show w.alloc (.cells #[.int .u16 0, .int .i64 0, .int .i64 0, .int .i64 0, .slice none 0 0, .int .i64 0] 27) = w0 from hw0.symm, HMM.out]
      clear hw0
      go_upto_region 7 with (go_at_call 9; refine H9.out.mono ?_; intro e1 w1 hh; obtain ⟨a, c, rfl, q1, q⟩ := hh.out; have HK1 : Hid (Bx w1 M 27 Z6l ∧ Below M w w1 ∧ M < w1.heap.size) := HKP.out w1 q; clear hh q q1)
      go_wp2_with (refine wpList_store_bx (by rfl) 27 (.tmp 2) (.tmp 32) (by rfl) Z6l Z6l M (by rfl) (by rfl) HK1.out.1 rfl hz6 hone ?_; intro w9 hb9 hg9)
      exact ret_agg_tmp (b := M) Z6l _ rfl rfl rfl hb9.range Try.underlying27 rfl hz6 (HEN.out 113 w1 w9 HB.out HK1.out.1 HK1.out.2.1 hb9 hg9)
    · have g2 : ¬ (n : Int) < 14 := by omega
      have g3 : (78 : Int) < (n : Int) := by omega
      clear hab ha
      go_enter Try.func4, Try.ntmps4
      go_upto_region 1 with fail
      rw [show w.alloc (.cells #[.int .u16 0, .int .i64 0, .int .i64 0, .int .i64 0, .slice none 0 0, .int .i64 0] 27) = w0 from hw0.symm, HMM.out]
      clear hw0
      go_upto_region 7 with (go_at_call 9; refine H9.out.mono ?_; intro e1 w1 hh; obtain ⟨a, c, rfl, q1, q⟩ := hh.out; have HK1 : Hid (Bx w1 M 27 Z6l ∧ Below M w w1 ∧ M < w1.heap.size) := HKP.out w1 q; clear hh q q1)
      go_wp2_with (refine wpList_store_bx (by rfl) 27 (.tmp 2) (.tmp 32) (by rfl) Z6l Z6l M (by rfl) (by rfl) HK1.out.1 rfl hz6 hone ?_; intro w9 hb9 hg9)
      exact ret_agg_tmp (b := M) Z6l _ rfl rfl rfl hb9.range Try.underlying27 rfl hz6 (HEN.out 113 w1 w9 HB.out HK1.out.1 HK1.out.2.1 hb9 hg9)
  case neg =>
  have HNB : Hid (14 ≤ n ∧ n ≤ 78) := ⟨by omega, by omega⟩
  have g2 : ¬ (n : Int) < 14 := by omega
  have g3 : ¬ (78 : Int) < (n : Int) := by omega
  have H10 : Hid (∀ g c u, n ≤ c → Rx u g l → Calls Try.prog 10 #[.slice (some ⟨g, 0, none⟩) n c] u fun e w' => NearQ l n u.heap.size e u w') := fun g c u hc hu => near_ok g 0 c n l u HN.out HNB.out.1 (by have := HNB.out; omega) hc hu.rw hu.lt
  have H11 : Hid (∀ g o c m u, m.length = n → n ≤ c → Rw u g o m → g < u.heap.size → Calls Try.prog 11 #[.slice (some ⟨g, o, none⟩) n c] u fun e w' => Hid ((¬ okF m ∧ (∃ a, e = .returned (.tuple #[.agg #[.int .u16 0, .int .i64 0, .int .i64 0, .int .i64 0], a, .bool false])) ∨ okF m ∧ ∃ g c', e = .returned (.tuple #[.agg (tds m).toArray, .slice (some ⟨g, 0, none⟩) ((m.getD 4 0).1 + 4) c', .bool true]) ∧ (m.getD 4 0).1 + 4 ≤ c' ∧ Rx w' g ((m.drop 5).take ((m.getD 4 0).1 + 4))) ∧ Below u.heap.size u w')) := fun g o c m u h1 h2 h3 h4 => fits_ok g o c n m u h1 HNB.out.1 (by have := HNB.out; omega) h2 h3 h4
  clear hab
  go_enter Try.func4, Try.ntmps4
  go_upto_region 1 with fail
  rw [show w.alloc (.cells #[.int .u16 0, .int .i64 0, .int .i64 0, .int .i64 0, .slice none 0 0, .int .i64 0] 27) = w0 from hw0.symm, HMM.out]
  clear hw0
  go_upto_region 8 with (go_at_call 9; refine H9.out.mono ?_; intro e1 w1 hh; obtain ⟨a, c, rfl, q1, q⟩ := hh.out; have HB1 : Hid (w1.ownsRow w0.heap.size 5 1 (.slice a n c) n (fc l) ∧ Below w0.heap.size w0 w1) := ⟨q1, q⟩; clear hh q q1)
  obtain ⟨g, c2, hge, HG⟩ := own_rx (l := l) (by rw [HN.out]; exact HB1.out.1) (by have := HNB.out; rw [HN.out]; omega)
  rw [HN.out] at hge
  have HCP : Hid (n ≤ c ∧ c ≤ 9223372036854775807) := own_cap HB1.out.1 (by have := HNB.out; omega)
  rw [hge] at HB1 ⊢
  injection hge with hg1 hg2 hg3
  rw [hg3] at HCP
  clear hg1 hg2 hg3 g1 g2 g3 H9
  have HNR : Hid (∀ (e : Ending) (u : World), NearQ l n w1.heap.size e w1 u → (∃ g o c' m, e = .returned (.tuple #[.slice (some ⟨g, o, none⟩) n c', .int .i64 (dif m l n : Nat), .bool true]) ∧ Hid (Nr l m ∧ m.length = n ∧ n ≤ c' ∧ Rw u g o m ∧ g < u.heap.size) ∧ Hid (Below w0.heap.size w0 u)) ∨ e = .returned (.tuple #[.slice none 0 0, .int .i64 0, .bool false]) ∧ Hid (∀ m, ¬ Nr l m) ∧ Hid (Below w0.heap.size w0 u)) := fun e u h => by
    obtain ⟨h, hb⟩ := h
    have hb0 : Below w0.heap.size w0 u := HB1.out.2.trans (hb.mono HB1.out.2.size)
    rcases h with ⟨g, o, c', m, rfl, q1, q2, q3, q4⟩ | ⟨q, rfl⟩
    · exact Or.inl ⟨g, o, c', m, rfl, ⟨q1, by rw [q1.len]; exact HN.out, q2, q3, q4⟩, hb0⟩
    · exact Or.inr ⟨rfl, q, hb0⟩
  go_upto_region 9 with (go_at_call 10; refine (H10.out g c2 w1 HCP.out.1 HG.out.1).mono ?_; intro e2 w2 hq; rcases HNR.out e2 w2 hq with ⟨g3, o3, c3, m, rfl, HM, hb⟩ | ⟨rfl, HM, hb⟩ <;> clear hq)
  · have HMM2 : Hid (Nr l m ∧ m.length = n ∧ n ≤ c3 ∧ Rw w2 g3 o3 m ∧ g3 < w2.heap.size) := HM
    have HBX : Hid (Bx w2 M 27 Z6l ∧ Below M w w2 ∧ M < w2.heap.size) := HKP.out w2 hb.out
    have HFQ : Hid (∀ (e : Ending) (u : World), Hid ((¬ okF m ∧ (∃ a, e = .returned (.tuple #[.agg #[.int .u16 0, .int .i64 0, .int .i64 0, .int .i64 0], a, .bool false])) ∨ okF m ∧ ∃ g c', e = .returned (.tuple #[.agg (tds m).toArray, .slice (some ⟨g, 0, none⟩) ((m.getD 4 0).1 + 4) c', .bool true]) ∧ (m.getD 4 0).1 + 4 ≤ c' ∧ Rx u g ((m.drop 5).take ((m.getD 4 0).1 + 4))) ∧ Below w2.heap.size w2 u) → (∃ a, e = .returned (.tuple #[.agg Z4l.toArray, a, .bool false]) ∧ Hid (¬ okF m) ∧ Hid (Bx u M 27 Z6l ∧ Below M w u ∧ M < u.heap.size)) ∨ ∃ g c' s4, e = .returned (.tuple #[.agg (tds m).toArray, .slice (some ⟨g, 0, none⟩) s4 c', .bool true]) ∧ Hid (okF m ∧ s4 = (m.getD 4 0).1 + 4 ∧ Rx u g ((m.drop 5).take ((m.getD 4 0).1 + 4))) ∧ Hid (Bx u M 27 Z6l ∧ Below M w u ∧ M < u.heap.size)) := fun e u h => by
      obtain ⟨h, hb⟩ := h.out
      have hk : Bx u M 27 Z6l ∧ Below M w u ∧ M < u.heap.size := ⟨HBX.out.1.below hb, HBX.out.2.1.trans (hb.mono (Nat.le_of_lt HBX.out.2.2)), (HBX.out.1.below hb).lt⟩
      rcases h with ⟨q, a, rfl⟩ | ⟨q, g, c', rfl, q2, q3⟩
      · exact Or.inl ⟨a, rfl, q, hk⟩
      · exact Or.inr ⟨g, c', _, rfl, ⟨q, rfl, q3⟩, hk⟩
    have H11b : Hid (Calls Try.prog 11 #[.slice (some ⟨g3, o3, none⟩) n c3] w2 fun e u => (∃ a, e = .returned (.tuple #[.agg Z4l.toArray, a, .bool false]) ∧ Hid (¬ okF m) ∧ Hid (Bx u M 27 Z6l ∧ Below M w u ∧ M < u.heap.size)) ∨ ∃ g c' s4, e = .returned (.tuple #[.agg (tds m).toArray, .slice (some ⟨g, 0, none⟩) s4 c', .bool true]) ∧ Hid (okF m ∧ s4 = (m.getD 4 0).1 + 4 ∧ Rx u g ((m.drop 5).take ((m.getD 4 0).1 + 4))) ∧ Hid (Bx u M 27 Z6l ∧ Below M w u ∧ M < u.heap.size)) := (H11.out g3 o3 c3 m w2 HMM2.out.2.1 HMM2.out.2.2.1 HMM2.out.2.2.2.1 HMM2.out.2.2.2.2).mono HFQ.out
    obtain ⟨sn, HSN⟩ : ∃ q : Nat, Hid (setN m = q) := ⟨_, rfl⟩
    obtain ⟨nd, HND⟩ : ∃ q : Nat, Hid ((m.getD 2 0).1 = q) := ⟨_, rfl⟩
    obtain ⟨ix, HIX⟩ : ∃ q : Nat, Hid ((m.getD 3 0).1 = q) := ⟨_, rfl⟩
    obtain ⟨s0, HS0⟩ : ∃ q : Nat, Hid ((m.getD 4 0).1 = q) := ⟨_, rfl⟩
    have HTV : Hid (tds m = [.int .u16 (sn : Nat), .int .i64 (nd : Nat), .int .i64 (ix : Nat), .int .i64 (s0 : Nat)]) := by show _ = _; rw [← HSN.out, ← HND.out, ← HIX.out, ← HS0.out]; rfl
    rw [HTV.out, HS0.out] at H11b
    obtain ⟨d, HD⟩ : ∃ q, Hid (dif m l n = q) := ⟨_, rfl⟩
    rw [HD.out]
    have hz4 : (Try.prog.info? 24).map (·.size) = some Z4l.length := by kernel_rfl
    have honez : ∀ v ∈ Z4l, v.oneCell' = true := by intro v hv; simp [Z4l] at hv; rcases hv with rfl | rfl | rfl | rfl <;> rfl
    have honeT : ∀ v ∈ [Value.int .u16 (sn : Nat), .int .i64 (nd : Nat), .int .i64 (ix : Nat), .int .i64 (s0 : Nat)], v.oneCell' = true := by intro v hv; simp at hv; rcases hv with rfl | rfl | rfl | rfl <;> rfl
    go_upto_region 11 with fail
    go_upto_region 12 with (first
      | (go_at_call 11; refine H11b.out.mono ?_; intro e3 w3 hq; rcases hq with ⟨a4, rfl, HO, HK3⟩ | ⟨g4, c4, s4, rfl, HO, HK3⟩)
      | (refine wpList_store_bx (by rfl) 24 (.tmp 9) (.tmp 45) (by rfl) Z4l Z4l w3.heap.size (by rfl) (by rfl) (Bx.new w3 24 Z4l) rfl hz4 honez ?_; intro w4 hb4 hg4; have H4 : Hid (Bx w4 w3.heap.size 24 Z4l ∧ (w3.alloc (.cells Z4l.toArray 24)).grownBy w4 (some w3.heap.size)) := ⟨hb4, hg4⟩; clear hb4 hg4)
      | (refine wpList_store_bx (by rfl) 24 (.tmp 9) (.tmp 45) (by rfl) Z4l [.int .u16 (sn : Nat), .int .i64 (nd : Nat), .int .i64 (ix : Nat), .int .i64 (s0 : Nat)] w3.heap.size (by rfl) (by rfl) (Bx.new w3 24 Z4l) rfl hz4 honeT ?_; intro w4 hb4 hg4; have H4 : Hid (Bx w4 w3.heap.size 24 [.int .u16 (sn : Nat), .int .i64 (nd : Nat), .int .i64 (ix : Nat), .int .i64 (s0 : Nat)] ∧ (w3.alloc (.cells Z4l.toArray 24)).grownBy w4 (some w3.heap.size)) := ⟨hb4, hg4⟩; clear hb4 hg4))
    · have H5 : Hid (Bx w4 M 27 Z6l ∧ Below M w w4) := by
        obtain ⟨q1, q2, q3⟩ := HK3.out
        have hb : Below w3.heap.size w3 w4 := Below.trans ((Below.refl _ _).alloc (Nat.le_refl _) _) (below_gb H4.out.2 (by simp) (Nat.le_refl _))
        exact ⟨q1.below hb, q2.trans (hb.mono (Nat.le_of_lt q3))⟩
      have HB : Hid (MBad s 113) := Or.inr ⟨HS.out.1, Or.inr ⟨HS.out.2, rfl, Or.inr (Or.inr ⟨by rw [HL.out, HN.out]; exact HNB.out.1, by rw [HL.out, HN.out]; exact HNB.out.2, fun m0 h0 hf => HO.out (by
        rw [HL.out] at h0
        rw [HMM2.out.1.only (by rw [HN.out]; have := HNB.out; omega) h0]
        exact hf)⟩)⟩⟩
      go_wp2_with (first
        | (refine wpList_store_bx (by rfl) 27 (.tmp 2) (.tmp 50) (by rfl) Z6l Z6l M (by rfl) (by rfl) H5.out.1 rfl hz6 hone ?_; intro w9 hb9 hg9))
      exact ret_agg_tmp (b := M) Z6l _ rfl rfl rfl hb9.range Try.underlying27 rfl hz6 (HEN.out 113 w4 w9 HB.out H5.out.1 H5.out.2 hb9 hg9)
    · have H5 : Hid (Bx w4 M 27 Z6l ∧ Below M w w4 ∧ Rx w4 g4 ((m.drop 5).take (s0 + 4))) := by
        obtain ⟨q1, q2, q3⟩ := HK3.out
        have hb : Below w3.heap.size w3 w4 := Below.trans ((Below.refl _ _).alloc (Nat.le_refl _) _) (below_gb H4.out.2 (by simp) (Nat.le_refl _))
        exact ⟨q1.below hb, q2.trans (hb.mono (Nat.le_of_lt q3)), HO.out.2.2.below hb⟩
      have hrg : w4.rangeAt w3.heap.size 0 [.int .u16 (sn : Nat), .int .i64 (nd : Nat), .int .i64 (ix : Nat), .int .i64 (s0 : Nat)] := H4.out.1.range
      obtain ⟨K3, HK4⟩ : ∃ k, Hid (w3.heap.size = k) := ⟨_, rfl⟩
      rw [HK4.out] at hrg ⊢
      have hone6 : ∀ v ∈ [Value.int .u16 (sn : Nat), .int .i64 (nd : Nat), .int .i64 (ix : Nat), .int .i64 (s0 : Nat), .slice (some ⟨g4, 0, none⟩) s4 c4, .int .i64 (d : Nat)], v.oneCell' = true := by intro v hv; simp at hv; rcases hv with rfl | rfl | rfl | rfl | rfl | rfl <;> rfl
      have hz6' : (Try.prog.info? 27).map (·.size) = some ([Value.int .u16 (sn : Nat), .int .i64 (nd : Nat), .int .i64 (ix : Nat), .int .i64 (s0 : Nat), .slice (some ⟨g4, 0, none⟩) s4 c4, .int .i64 (d : Nat)] : List Value).length := by kernel_rfl
      have hz4' : (Try.prog.info? 24).map (·.size) = some ([Value.int .u16 (sn : Nat), .int .i64 (nd : Nat), .int .i64 (ix : Nat), .int .i64 (s0 : Nat)] : List Value).length := by kernel_rfl
      have HGD : Hid (MGood s m d) := ⟨HS.out.1, HS.out.2, by rw [HL.out, HN.out]; exact HNB.out.1, by rw [HL.out, HN.out]; exact HNB.out.2, by rw [HL.out]; exact HMM2.out.1, HO.out.1, by rw [HL.out, HN.out, HD.out]⟩
      have HS4 : Hid (s4 = s0 + 4) := HO.out.2.1
      have HPL : Hid (partL m g4 c4 d = [.int .u16 (sn : Nat), .int .i64 (nd : Nat), .int .i64 (ix : Nat), .int .i64 (s0 : Nat), .slice (some ⟨g4, 0, none⟩) s4 c4, .int .i64 (d : Nat)]) := by
        show _ = _
        unfold partL
        rw [HTV.out, HS0.out, HS4.out]
        rfl
      go_wp2_with (first
        | (refine wpList_load_mid (by rfl) 24 (.tmp 9) (by rfl) K3 0 (by rfl) [.int .u16 (sn : Nat), .int .i64 (nd : Nat), .int .i64 (ix : Nat), .int .i64 (s0 : Nat)] _ hrg Try.underlying24 rfl hz4' ?_)
        | (refine wpList_store_bx (by rfl) 27 (.tmp 2) (.tmp 54) (by rfl) Z6l [.int .u16 (sn : Nat), .int .i64 (nd : Nat), .int .i64 (ix : Nat), .int .i64 (s0 : Nat), .slice (some ⟨g4, 0, none⟩) s4 c4, .int .i64 (d : Nat)] M (by rfl) (by rfl) H5.out.1 rfl hz6' hone6 ?_; intro w9 hb9 hg9))
      refine ret_agg_tmp (b := M) _ _ rfl rfl rfl hb9.range Try.underlying27 rfl hz6' ⟨Or.inr ⟨m, d, g4, c4, HGD.out, ?_, ?_⟩, ?_⟩
      · rw [HPL.out]; rfl
      · rw [HS0.out]
        exact H5.out.2.2.keep (hg9.block g4 H5.out.2.2.lt (fun e => by
          injection e with e
          obtain ⟨sp, hx⟩ := H5.out.2.2
          rw [e] at hx
          have q := hx.symm.trans H5.out.1
          simp at q))
      · rw [HMM.out]
        exact H5.out.2.1.trans (below_gb hg9 (Nat.le_of_lt H5.out.1.lt) (Nat.le_refl _))
  · have HBX : Hid (Bx w2 M 27 Z6l ∧ Below M w w2 ∧ M < w2.heap.size) := HKP.out w2 hb.out
    have HB : Hid (MBad s 113) := Or.inr ⟨HS.out.1, Or.inr ⟨HS.out.2, rfl, Or.inr (Or.inr ⟨by rw [HL.out, HN.out]; exact HNB.out.1, by rw [HL.out, HN.out]; exact HNB.out.2, fun m0 h0 _ => HM.out m0 (by rw [← HL.out]; exact h0)⟩)⟩⟩
    go_wp2_with (first
      | (refine wpList_store_bx (by rfl) 27 (.tmp 2) (.tmp 41) (by rfl) Z6l Z6l M (by rfl) (by rfl) HBX.out.1 rfl hz6 hone ?_; intro w9 hb9 hg9))
    exact ret_agg_tmp (b := M) Z6l _ rfl rfl rfl hb9.range Try.underlying27 rfl hz6 (HEN.out 113 w2 w9 HB.out HBX.out.1 HBX.out.2.1 hb9 hg9)
end Go.Proofs.Ytffejkfkkciaaaa
