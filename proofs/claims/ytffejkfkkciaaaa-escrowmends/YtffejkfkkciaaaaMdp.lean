import Derived.Test.YtffejkfkkciaaaaMds
import Derived.Test.YtffejkfkkciaaaaEsl
namespace Go.Proofs.Ytffejkfkkciaaaa
open Go.RowKit
set_option linter.unusedVariables false
set_option linter.unusedSimpArgs false
/-- What Mend says. -/
def MenQ (s : ByteArray) (M : Nat) (e : Ending) (w w' : World) : Prop :=
  ((∃ k : Nat, MBad s k ∧ e = .returned (.tuple #[.string ⟨#[]⟩, .int .i64 0, .int .i64 (k : Nat)])) ∨ ∃ m d, MGood s m d ∧ e = .returned (.tuple #[.string (WLs m), .int .i64 (d : Nat), .int .i64 0])) ∧ Below M w w'
def Z4l : List Value := [.int .u16 0, .int .i64 0, .int .i64 0, .int .i64 0]
/-- What Tell says. -/
def TelQ (s : ByteArray) (M : Nat) (e : Ending) (w w' : World) : Prop :=
  ((∃ k : Nat, MBad s k ∧ e = .returned (.tuple #[.agg Z4l.toArray, .int .i64 (k : Nat)])) ∨ ∃ m d, MGood s m d ∧ e = .returned (.tuple #[.agg (tds m).toArray, .int .i64 0])) ∧ Below M w w'
theorem row_split {s : ByteArray} {M : Nat} {e : Ending} {w w' : World} (h : RowQ s M e w w') : (∃ k : Nat, Hid (MBad s k) ∧ ((k : Int) != 0) = true ∧ e = .returned (.tuple #[.slice none 0 0, .int .i64 0, .int .i64 (k : Nat)]) ∧ Hid (Below M w w')) ∨ ∃ m d g c' n, Hid (MGood s m d ∧ m.length = n ∧ 14 ≤ n ∧ n ≤ 78 ∧ Rx w' g m ∧ n ≤ c' ∧ c' ≤ 9223372036854775807) ∧ e = .returned (.tuple #[.slice (some ⟨g, 0, none⟩) n c', .int .i64 (d : Nat), .int .i64 0]) ∧ Hid (Below M w w') := by
  obtain ⟨h, hb⟩ := h
  rcases h with ⟨k, hk, rfl⟩ | ⟨m, d, g, c', hg, rfl, hr, h1, h2⟩
  · exact Or.inl ⟨k, hk, by have := bad_ne hk; rw [bne_iff_ne]; omega, rfl, hb⟩
  · refine Or.inr ⟨m, d, g, c', m.length, ⟨hg, rfl, ?_, ?_, hr, h1, h2⟩, rfl, hb⟩
    · rw [hg.2.2.2.2.1.len]; exact hg.2.2.1
    · rw [hg.2.2.2.2.1.len]; exact hg.2.2.2.1
set_option maxHeartbeats 1600000 in
set_option maxRecDepth 100000 in
theorem mend_ok (s : ByteArray) (w : World) : Calls Try.prog 6 #[.string s] w fun e w' => MenQ s w.heap.size e w w' := by
  obtain ⟨M, HMM⟩ : ∃ M, Hid (w.heap.size = M) := ⟨_, rfl⟩
  have H14 : Hid (Calls Try.prog 14 #[.string s] w fun e w' => RowQ s w.heap.size e w w') := readRow_ok s w
  have H15 : Hid (∀ g c n m u, m.length = n → n ≤ 78 → n ≤ c → c ≤ 9223372036854775807 → Rx u g m → Calls Try.prog 15 #[.slice (some ⟨g, 0, none⟩) n c] u fun e w' => e = .returned (.string (WLs m)) ∧ Below u.heap.size u w') := fun g c n m u h1 h2 h3 h4 h5 => wordsF_ok g 0 n c m u h1 (by omega) h3 h4 h5.rw
  rw [HMM.out] at H14 ⊢
  go_enter Try.func6, Try.ntmps6
  go_upto_region 2 with (go_at_call 14; refine H14.out.mono ?_; intro e1 w1 hq; rcases row_split hq with ⟨k, hk, gk, rfl, hb⟩ | ⟨m, d, g, c, n, hg, rfl, hb⟩ <;> clear hq)
  · go_wp2
    go_ret3
    exact ⟨Or.inl ⟨k, hk.out, rfl⟩, hb.out⟩
  · go_wp2_with (go_at_call 15; refine (H15.out g c n m _ hg.out.2.1 hg.out.2.2.2.1 hg.out.2.2.2.2.2.1 hg.out.2.2.2.2.2.2 hg.out.2.2.2.2.1).mono ?_; rintro e2 w2 ⟨rfl, hb2⟩; have HB2 : Hid (Below w1.heap.size w1 w2) := hb2; clear hb2)
    go_ret3
    exact ⟨Or.inr ⟨m, d, hg.out.1, rfl⟩, hb.out.trans (HB2.out.mono (bel_size hb.out HMM.out))⟩
set_option maxHeartbeats 1600000 in
set_option maxRecDepth 100000 in
theorem tell_ok (s : ByteArray) (w : World) : Calls Try.prog 7 #[.string s] w fun e w' => TelQ s w.heap.size e w w' := by
  obtain ⟨M, HMM⟩ : ∃ M, Hid (w.heap.size = M) := ⟨_, rfl⟩
  have H14 : Hid (∀ u, Calls Try.prog 14 #[.string s] u fun e w' => RowQ s u.heap.size e u w') := fun u => readRow_ok s u
  have H16 : Hid (∀ g c n m u, m.length = n → 14 ≤ n → Rx u g m → Calls Try.prog 16 #[.slice (some ⟨g, 0, none⟩) n c] u fun e w' => Hid (e = .returned (.agg (tds m).toArray) ∧ Below u.heap.size u w')) := fun g c n m u h1 h2 h3 => told_ok g 0 c n m u h1 (by omega) h3.rw
  have hz4 : (Try.prog.info? 24).map (·.size) = some Z4l.length := by kernel_rfl
  have honez : ∀ v ∈ Z4l, v.oneCell' = true := by intro v hv; simp [Z4l] at hv; rcases hv with rfl | rfl | rfl | rfl <;> rfl
  obtain ⟨w0, hw0⟩ : ∃ u, u = w.alloc (.cells Z4l.toArray 24) := ⟨_, rfl⟩
  have H0 : Hid (Bx w0 M 24 Z4l ∧ Below M w w0 ∧ w0.heap.size = M + 1) := by
    rw [hw0, ← HMM.out]
    exact ⟨Bx.new w 24 Z4l, (Below.refl _ _).alloc (Nat.le_refl _) _, by simp⟩
  go_enter Try.func7, Try.ntmps7
  go_upto_region 1 with fail
  rw [show w.alloc (.cells #[.int .u16 0, .int .i64 0, .int .i64 0, .int .i64 0] 24) = w0 from hw0.symm, HMM.out]
  clear hw0
  go_upto_region 2 with (go_at_call 14; refine (H14.out w0).mono ?_; intro e1 w1 hq; rcases row_split hq with ⟨k, hk, gk, rfl, hb⟩ | ⟨m, d, g, c, n, hg, rfl, hb⟩ <;> clear hq)
  · have H1 : Hid (Bx w1 M 24 Z4l ∧ Below M w w1) := ⟨H0.out.1.below hb.out, H0.out.2.1.trans (hb.out.mono (by rw [H0.out.2.2]; omega))⟩
    go_wp2_with (refine wpList_store_bx (by rfl) 24 (.tmp 2) (.tmp 15) (by rfl) Z4l Z4l M (by rfl) (by rfl) H1.out.1 rfl hz4 honez ?_; intro w9 hb9 hg9)
    refine ret_agg_tmp (b := M) Z4l _ rfl rfl rfl hb9.range Try.underlying24 rfl hz4 ⟨Or.inl ⟨k, hk.out, rfl⟩, ?_⟩
    rw [HMM.out]
    exact H1.out.2.trans (below_gb hg9 (Nat.le_of_lt H1.out.1.lt) (Nat.le_refl _))
  · have HTL : Hid ((tds m).length = 4 ∧ ∀ v ∈ tds m, v.oneCell' = true) := ⟨rfl, fun v hv => by simp [tds] at hv; rcases hv with rfl | rfl | rfl | rfl <;> rfl⟩
    have hi7 : (Try.prog.info? 24).map (·.size) = some (tds m).length := by rw [HTL.out.1]; kernel_rfl
    have H1 : Hid (Bx w1 M 24 Z4l ∧ Below M w w1 ∧ M < w1.heap.size) := ⟨H0.out.1.below hb.out, H0.out.2.1.trans (hb.out.mono (by rw [H0.out.2.2]; omega)), (H0.out.1.below hb.out).lt⟩
    obtain ⟨T, HT⟩ : ∃ t, Hid (tds m = t) := ⟨_, rfl⟩
    have H16b : Hid (∀ u, Rx u g m → Calls Try.prog 16 #[.slice (some ⟨g, 0, none⟩) n c] u fun e w' => Hid (e = .returned (.agg T.toArray) ∧ Below u.heap.size u w')) := fun u hu => by rw [← HT.out]; exact H16.out g c n m u hg.out.2.1 hg.out.2.2.1 hu
    rw [HT.out] at HTL hi7
    go_wp2_with (first
      | (go_at_call 16; refine (H16b.out _ hg.out.2.2.2.2.1).mono ?_; intro e2 w2 hh; obtain ⟨rfl, q⟩ := hh.out; have H2 : Hid (Bx w2 M 24 Z4l ∧ Below M w w2) := ⟨H1.out.1.below q, H1.out.2.1.trans (q.mono (Nat.le_of_lt H1.out.2.2))⟩; clear hh q)
      | (refine wpList_store_bx (by rfl) 24 (.tmp 2) (.tmp 18) (by rfl) Z4l T M (by rfl) (by rfl) H2.out.1 HTL.out.1 hi7 HTL.out.2 ?_; intro w9 hb9 hg9))
    refine ret_agg_tmp (b := M) T _ rfl rfl rfl hb9.range Try.underlying24 rfl hi7 ⟨Or.inr ⟨m, d, hg.out.1, by rw [HT.out]; rfl⟩, ?_⟩
    rw [HMM.out]
    exact H2.out.2.trans (below_gb hg9 (Nat.le_of_lt H2.out.1.lt) (Nat.le_refl _))
end Go.Proofs.Ytffejkfkkciaaaa
