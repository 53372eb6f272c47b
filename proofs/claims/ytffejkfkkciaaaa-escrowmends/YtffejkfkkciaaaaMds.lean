import Derived.Test.YtffejkfkkciaaaaMdd
import Derived.Test.YtffejkfkkciaaaaLin
import Derived.Test.YtffejkfkkciaaaaRdb
import Derived.Test.YtffejkfkkciaaaaEnr
namespace Go.Proofs.Ytffejkfkkciaaaa
open Go.RowKit
set_option linter.unusedVariables false
set_option linter.unusedSimpArgs false
/-- What a text's words say. -/
def tx (s : ByteArray) : List F := saidW (txL s)
/-- Why a text is no share. -/
def MBad (s : ByteArray) (k : Nat) : Prop := 1024 < s.size ∧ k = 4 ∨ s.size ≤ 1024 ∧ (¬ all5 (txL s) ∧ k = 112 ∨ all5 (txL s) ∧ k = 113 ∧ ((tx s).length < 14 ∨ 78 < (tx s).length ∨ 14 ≤ (tx s).length ∧ (tx s).length ≤ 78 ∧ ∀ m, Nr (tx s) m → ¬ okF m))
/-- What a text is mended to. -/
def MGood (s : ByteArray) (m : List F) (d : Nat) : Prop := s.size ≤ 1024 ∧ all5 (txL s) ∧ 14 ≤ (tx s).length ∧ (tx s).length ≤ 78 ∧ Nr (tx s) m ∧ okF m ∧ d = dif m (tx s) (tx s).length
theorem bad_only {s : ByteArray} {k k' : Nat} (h : MBad s k) (h' : MBad s k') : k = k' := by
  rcases h with ⟨a, b⟩ | ⟨a, ⟨b, c⟩ | ⟨b, c, d⟩⟩ <;> rcases h' with ⟨a', b'⟩ | ⟨a', ⟨b', c'⟩ | ⟨b', c', d'⟩⟩
  · omega
  · omega
  · omega
  · omega
  · omega
  · exact absurd b' b
  · omega
  · exact absurd b b'
  · omega
theorem bad_good {s : ByteArray} {k : Nat} {m : List F} {d : Nat} (h : MBad s k) (g : MGood s m d) : False := by
  obtain ⟨g1, g2, g3, g4, g5, g6, g7⟩ := g
  rcases h with ⟨a, b⟩ | ⟨a, ⟨b, c⟩ | ⟨b, c, d | d | ⟨d1, d2, d3⟩⟩⟩
  · omega
  · exact b g2
  · omega
  · omega
  · exact d3 m g5 g6
theorem bad_ne {s : ByteArray} {k : Nat} (h : MBad s k) : 0 < k ∧ k < 200 := by
  rcases h with ⟨a, b⟩ | ⟨a, ⟨b, c⟩ | ⟨b, c, d⟩⟩ <;> omega
theorem good_only {s : ByteArray} {m m' : List F} {d d' : Nat} (h : MGood s m d) (h' : MGood s m' d') : m = m' ∧ d = d' := by
  obtain ⟨g1, g2, g3, g4, g5, g6, g7⟩ := h
  obtain ⟨g1', g2', g3', g4', g5', g6', g7'⟩ := h'
  have e : m = m' := g5.only (by omega) g5'
  subst e
  exact ⟨rfl, by rw [g7, g7']⟩
/-- What readRow says. -/
def RowQ (s : ByteArray) (M : Nat) (e : Ending) (w w' : World) : Prop :=
  ((∃ k : Nat, MBad s k ∧ e = .returned (.tuple #[.slice none 0 0, .int .i64 0, .int .i64 (k : Nat)])) ∨ ∃ m d g c', MGood s m d ∧ e = .returned (.tuple #[.slice (some ⟨g, 0, none⟩) m.length c', .int .i64 (d : Nat), .int .i64 0]) ∧ Rx w' g m ∧ (m.length ≤ c' ∧ c' ≤ 9223372036854775807)) ∧ Below M w w'
theorem okF_len {m : List F} (h : okF m) : m.length = unc (m.getD 4 0).1 + 4 := h.2.2.2.1
theorem own_slice {w : World} {B e n : Nat} {v : Value} {l : List Value} (h : w.ownsRow B e 1 v n l) : ∃ a c, v = .slice a n c := by
  rcases h.2 with ⟨q, q2⟩ | ⟨g, cap, cur, q, _⟩
  · exact ⟨none, 0, by rw [q, q2]⟩
  · exact ⟨_, _, q⟩
theorem near_zero {l m : List F} (hn : l.length ≤ 255) (h14 : 2 ≤ l.length) (h : MR l m) : (okS m → Nr l m ∧ okF m) ∧ (¬ okS m → ∀ m0, Nr l m0 → ¬ okF m0) := by
  refine ⟨fun hs => ?_, fun hs m0 h0 hf => hs ?_⟩
  · have q := (okS_okF m).1 hs
    exact ⟨h.near hn h14 q.2, q.1⟩
  · have e := h.only hn h0
    subst e
    exact (okS_okF m).2 ⟨hf, h0.1⟩
theorem words_1 (s : ByteArray) (w : World) (h : 1024 < s.size) : Calls Try.prog 23 #[.string s] w fun e w' => Hid (e = .returned (.tuple #[.slice none 0 0, .int .i64 4]) ∧ Below w.heap.size w w') :=
  (readWords_ok s w).mono (by
    rintro e w' ⟨q, hb⟩
    rcases q with ⟨_, rfl⟩ | ⟨q, _⟩
    · exact ⟨rfl, hb⟩
    · omega)
theorem words_2 (s : ByteArray) (w : World) (h : s.size ≤ 1024) (h5 : ¬ all5 (txL s)) : Calls Try.prog 23 #[.string s] w fun e w' => Hid (e = .returned (.tuple #[.slice none 0 0, .int .i64 112]) ∧ Below w.heap.size w w') :=
  (readWords_ok s w).mono (by
    rintro e w' ⟨q, hb⟩
    rcases q with ⟨q, _⟩ | ⟨_, ⟨_, rfl⟩ | ⟨q, _⟩⟩
    · omega
    · exact ⟨rfl, hb⟩
    · exact absurd q h5)
theorem words_3 (s : ByteArray) (w : World) (h : s.size ≤ 1024) (h5 : all5 (txL s)) : Calls Try.prog 23 #[.string s] w fun e w' => Hid (∃ a c, e = .returned (.tuple #[.slice a (tx s).length c, .int .i64 0]) ∧ w'.ownsRow w.heap.size 5 1 (.slice a (tx s).length c) (tx s).length (fc (tx s)) ∧ Below w.heap.size w w') :=
  (readWords_ok s w).mono (by
    rintro e w' ⟨q, hb⟩
    rcases q with ⟨q, _⟩ | ⟨_, ⟨q, _⟩ | ⟨_, v, rfl, ho⟩⟩
    · omega
    · exact absurd h5 q
    · obtain ⟨a, c, rfl⟩ := own_slice ho
      exact ⟨a, c, rfl, ho, hb⟩)
set_option maxHeartbeats 3200000 in
set_option maxRecDepth 100000 in
theorem readRow_ok (s : ByteArray) (w : World) : Calls Try.prog 14 #[.string s] w fun e w' => RowQ s w.heap.size e w w' := by
  obtain ⟨M, HMM⟩ : ∃ M, Hid (w.heap.size = M) := ⟨_, rfl⟩
  by_cases h1 : 1024 < s.size
  case pos =>
    have HB : Hid (MBad s 4) := Or.inl ⟨h1, rfl⟩
    have H23 : Hid (Calls Try.prog 23 #[.string s] w fun e w' => Hid (e = .returned (.tuple #[.slice none 0 0, .int .i64 4]) ∧ Below w.heap.size w w')) := words_1 s w h1
    clear h1
    go_enter Try.func14, Try.ntmps14
    go_wp2_with (go_at_call 23; refine H23.out.mono ?_; intro e1 w1 hh; obtain ⟨rfl, q⟩ := hh.out; have HB1 : Hid (Below w.heap.size w w1) := q; clear hh q)
    go_ret3
    exact ⟨Or.inl ⟨4, HB.out, rfl⟩, HB1.out⟩
  case neg =>
  by_cases h5 : all5 (txL s)
  case neg =>
    have HB : Hid (MBad s 112) := Or.inr ⟨by omega, Or.inl ⟨h5, rfl⟩⟩
    have H23 : Hid (Calls Try.prog 23 #[.string s] w fun e w' => Hid (e = .returned (.tuple #[.slice none 0 0, .int .i64 112]) ∧ Below w.heap.size w w')) := words_2 s w (by omega) h5
    clear h1 h5
    go_enter Try.func14, Try.ntmps14
    go_wp2_with (go_at_call 23; refine H23.out.mono ?_; intro e1 w1 hh; obtain ⟨rfl, q⟩ := hh.out; have HB1 : Hid (Below w.heap.size w w1) := q; clear hh q)
    go_ret3
    exact ⟨Or.inl ⟨112, HB.out, rfl⟩, HB1.out⟩
  case pos =>
  have HS : Hid (s.size ≤ 1024 ∧ all5 (txL s)) := ⟨by omega, h5⟩
  have H23 : Hid (Calls Try.prog 23 #[.string s] w fun e w' => Hid (∃ a c, e = .returned (.tuple #[.slice a (tx s).length c, .int .i64 0]) ∧ w'.ownsRow w.heap.size 5 1 (.slice a (tx s).length c) (tx s).length (fc (tx s)) ∧ Below w.heap.size w w')) := words_3 s w (by omega) h5
  have H24a : Hid (∀ u, Calls Try.prog 24 #[.int .i64 1] u fun e w' => e = .returned (.int .i64 14) ∧ w' = u) := fun u => rowSize_ok 1 (by decide) u
  have H24b : Hid (∀ u, Calls Try.prog 24 #[.int .i64 64] u fun e w' => e = .returned (.int .i64 78) ∧ w' = u) := fun u => rowSize_ok 64 (by decide) u
  obtain ⟨l, HL⟩ : ∃ l, Hid (tx s = l) := ⟨_, rfl⟩
  obtain ⟨n, HN⟩ : ∃ n, Hid (l.length = n) := ⟨_, rfl⟩
  rw [HL.out, HN.out] at H23
  clear h1 h5
  by_cases ha : n < 14
  case pos =>
    have HB : Hid (MBad s 113) := Or.inr ⟨HS.out.1, Or.inr ⟨HS.out.2, rfl, Or.inl (by rw [HL.out, HN.out]; exact ha)⟩⟩
    have g1 : (n : Int) < 14 := by omega
    clear ha
    go_enter Try.func14, Try.ntmps14
    go_wp2_with (first
      | (go_at_call 23; refine H23.out.mono ?_; intro e1 w1 hh; obtain ⟨a, c, rfl, q1, q⟩ := hh.out; have HB1 : Hid (Below w.heap.size w w1) := q; clear hh q q1)
      | (go_at_call 24; refine (H24a.out _).mono ?_; rintro e2 w2 ⟨rfl, hw⟩; obtain rfl := hw.symm; clear hw))
    go_ret3
    exact ⟨Or.inl ⟨113, HB.out, rfl⟩, HB1.out⟩
  case neg =>
  by_cases hb : 78 < n
  case pos =>
    have HB : Hid (MBad s 113) := Or.inr ⟨HS.out.1, Or.inr ⟨HS.out.2, rfl, Or.inr (Or.inl (by rw [HL.out, HN.out]; exact hb))⟩⟩
    have g1 : ¬ (n : Int) < 14 := by omega
    have g2 : (78 : Int) < (n : Int) := by omega
    have HM : Hid True := trivial
    clear ha hb
    go_enter Try.func14, Try.ntmps14
    go_wp2_with (first
      | (go_at_call 23; refine H23.out.mono ?_; intro e1 w1 hh; obtain ⟨a, c, rfl, q1, q⟩ := hh.out; have HB1 : Hid (Below w.heap.size w w1) := q; clear hh q q1)
      | (go_at_call 24; refine (H24a.out _).mono ?_; rintro e2 w2 ⟨rfl, hw⟩; obtain rfl := hw.symm; clear hw H24a)
      | (go_at_call 24; refine (H24b.out _).mono ?_; rintro e2 w2 ⟨rfl, hw⟩; obtain rfl := hw.symm; clear hw))
    go_ret3
    exact ⟨Or.inl ⟨113, HB.out, rfl⟩, HB1.out⟩
  case neg =>
  have HNB : Hid (14 ≤ n ∧ n ≤ 78) := ⟨by omega, by omega⟩
  have g1 : ¬ (n : Int) < 14 := by omega
  have g2 : ¬ (78 : Int) < (n : Int) := by omega
  clear ha hb
  go_enter Try.func14, Try.ntmps14
  go_upto_region 6 with (first
    | (go_at_call 23; refine H23.out.mono ?_; intro e1 w1 hh; obtain ⟨a, c, rfl, q1, q⟩ := hh.out; have HB1 : Hid (w1.ownsRow w.heap.size 5 1 (.slice a n c) n (fc l) ∧ Below w.heap.size w w1) := ⟨q1, q⟩; clear hh q q1)
    | (go_at_call 24; refine (H24a.out _).mono ?_; rintro e2 w2 ⟨rfl, hw⟩; obtain rfl := hw.symm; clear hw H24a)
    | (go_at_call 24; refine (H24b.out _).mono ?_; rintro e2 w2 ⟨rfl, hw⟩; obtain rfl := hw.symm; clear hw))
  obtain ⟨g, c2, hge, HG⟩ := own_rx (l := l) (by rw [HN.out]; exact HB1.out.1) (by have := HNB.out; rw [HN.out]; omega)
  rw [HN.out] at hge
  have HCP : Hid (n ≤ c ∧ c ≤ 9223372036854775807) := own_cap HB1.out.1 (by have := HNB.out; omega)
  rw [hge] at HB1 ⊢
  injection hge with hg1 hg2 hg3
  rw [hg3] at HCP
  clear hg1 hg2 hg3 g1 g2 H23 H24b
  have H25 : Hid (Calls Try.prog 25 #[.slice (some ⟨g, 0, none⟩) n c2] w1 fun e w' => Hid (∃ g' c' m, e = .returned (.slice (some ⟨g', 0, none⟩) n c') ∧ (n ≤ c' ∧ c' ≤ 9223372036854775807) ∧ Rx w' g' m ∧ MR l m ∧ m.length = n ∧ Below w1.heap.size w1 w')) := by
    have q := mended_cap g 0 c2 l w1 (by rw [HN.out]; have := HNB.out; omega) (by rw [HN.out]; have := HNB.out; omega) HG.out.1.rw HG.out.1.lt
    rw [HN.out] at q
    exact q.mono (by
      intro e w' hh
      obtain ⟨g', c', m, q1, q2, q3, q4, q5, q6, q7⟩ := hh.out
      exact ⟨g', c', m, q1, q2, q4, q5, q6, q7⟩)
  go_upto_region 7 with (go_at_call 25; refine H25.out.mono ?_; intro e3 w3 hh; obtain ⟨g3, c3, m, rfl, q1, q2, q3, q4, q5⟩ := hh.out; have H3 : Hid ((n ≤ c3 ∧ c3 ≤ 9223372036854775807) ∧ Rx w3 g3 m ∧ MR l m ∧ m.length = n ∧ Below w1.heap.size w1 w3) := ⟨q1, q2, q3, q4, q5⟩; clear hh q1 q2 q3 q4 q5)
  have HB3 : Hid (Below M w w3) := by
    have e1 : Below M w w1 := by rw [← HMM.out]; exact HB1.out.2
    exact e1.trans (H3.out.2.2.2.2.mono (bel_size e1 HMM.out))
  have HNZ := near_zero (l := l) (m := m) (by rw [HN.out]; have := HNB.out; omega) (by rw [HN.out]; have := HNB.out; omega) H3.out.2.2.1
  have H26 := isShare_ok g3 0 c3 n m w3 H3.out.2.2.2.1 HNB.out.1 (by have := HNB.out; omega) H3.out.1.1 H3.out.2.1.rw H3.out.2.1.lt
  by_cases hok : okS m
  case neg =>
    have HB : Hid (MBad s 113) := Or.inr ⟨HS.out.1, Or.inr ⟨HS.out.2, rfl, Or.inr (Or.inr ⟨by rw [HL.out, HN.out]; exact HNB.out.1, by rw [HL.out, HN.out]; exact HNB.out.2, by rw [HL.out]; exact HNZ.2 hok⟩)⟩⟩
    have H26b : Hid (Calls Try.prog 26 #[.slice (some ⟨g3, 0, none⟩) n c3] w3 fun e w' => Hid (e = .returned (.bool false) ∧ Below w3.heap.size w3 w')) := H26.mono (by
      intro e w' hh
      obtain ⟨d, rfl, hd, hb⟩ := hh.out
      cases d with
      | false => exact ⟨rfl, hb⟩
      | true => exact absurd (hd.1 rfl) hok)
    clear H26 HNZ hok
    go_wp2_with (go_at_call 26; refine H26b.out.mono ?_; intro e4 w4 hh; obtain ⟨rfl, q⟩ := hh.out; have HB4 : Hid (Below w3.heap.size w3 w4) := q; clear hh q)
    go_ret3
    exact ⟨Or.inl ⟨113, HB.out, rfl⟩, by rw [HMM.out]; exact HB3.out.trans (HB4.out.mono (bel_size HB3.out HMM.out))⟩
  case pos =>
    have H26b : Hid (Calls Try.prog 26 #[.slice (some ⟨g3, 0, none⟩) n c3] w3 fun e w' => Hid (e = .returned (.bool true) ∧ Below w3.heap.size w3 w')) := H26.mono (by
      intro e w' hh
      obtain ⟨d, rfl, hd, hb⟩ := hh.out
      cases d with
      | false => have := hd.2 hok; cases this
      | true => exact ⟨rfl, hb⟩)
    have HGD : Hid (MGood s m (dif m l n)) := ⟨HS.out.1, HS.out.2, by rw [HL.out, HN.out]; exact HNB.out.1, by rw [HL.out, HN.out]; exact HNB.out.2, by rw [HL.out]; exact (HNZ.1 hok).1, (HNZ.1 hok).2, by rw [HL.out, HN.out]⟩
    have H27 : Hid (∀ u, Rw u g3 0 m → Rw u g 0 l → Calls Try.prog 27 #[.slice (some ⟨g3, 0, none⟩) n c3, .slice (some ⟨g, 0, none⟩) n c2] u fun e w' => Hid (e = .returned (.int .i64 (dif m l n : Nat)) ∧ Below u.heap.size u w')) := fun u h1 h2 => differing_ok g3 0 c3 g 0 c2 n m l u H3.out.2.2.2.1 HN.out (by have := HNB.out; omega) h1 h2
    have HRL : Hid (Rx w3 g l) := HG.out.1.below H3.out.2.2.2.2
    clear H26 HNZ hok
    go_wp2_with (first
      | (go_at_call 26; refine H26b.out.mono ?_; intro e4 w4 hh; obtain ⟨rfl, q⟩ := hh.out; have HB4 : Hid (Below w3.heap.size w3 w4) := q; clear hh q)
      | (go_at_call 27; refine (H27.out w4 (H3.out.2.1.below HB4.out).rw (HRL.out.below HB4.out).rw).mono ?_; intro e5 w5 hh; obtain ⟨rfl, q⟩ := hh.out; have HB5 : Hid (Below w4.heap.size w4 w5) := q; clear hh q))
    go_ret3
    refine ⟨Or.inr ⟨m, dif m l n, g3, c3, HGD.out, ?_, (H3.out.2.1.below HB4.out).below HB5.out, ?_⟩, ?_⟩
    · rw [H3.out.2.2.2.1]; rfl
    · rw [H3.out.2.2.2.1]; exact H3.out.1
    · rw [HMM.out]
      have e4 : Below M w w4 := HB3.out.trans (HB4.out.mono (bel_size HB3.out HMM.out))
      exact e4.trans (HB5.out.mono (bel_size e4 HMM.out))
end Go.Proofs.Ytffejkfkkciaaaa
