import Derived.Test.YtgenigagkdoghaaRWd
namespace Go.Proofs.Ytgenigagkdoghaa
open Go.RowKit

set_option maxHeartbeats 400000 in
theorem words_zero (a : Option Addr) (c : Nat) (w : World) :
    Calls Try.prog 9 #[.slice a 0 c] w fun e w' => e = .returned (.string ⟨#[]⟩) ∧ Below w.heap.size w w' := by
  go_enter Try.func9, Try.ntmps9
  go_wp2
  go_loopw [4] (fun i wr => i = .int .i64 0 ∧ Hid (Lib.IsBuilder 33 5 w.heap.size w.heap.size (Lib.byteCells []) wr) ∧ Hid (Below w.heap.size w wr)) (fun i _ => 0)
  case atStart => exact ⟨rfl, Lib.fresh_isBuilder 33 5 w, (Below.refl _ _).alloc (Nat.le_refl _) _⟩
  case round =>
    obtain ⟨rfl, HI, HB⟩ := hrel
    go_wp2_with (go_at_call 17; refine (Try.Builder_String_any w.heap.size w.heap.size _ _ HI.out HB.out.size).mono ?_)
    rintro e w2 ⟨rfl, hb2⟩
    go_wp2
    go_ret
    exact ⟨rfl, HB.out.trans hb2⟩
set_option maxHeartbeats 400000 in
theorem rwords_zero (a : Option Addr) (c : Nat) (w : World) :
    Calls Try.prog 10 #[.slice a 0 c] w fun e w' => e = .returned (.string ⟨#[]⟩) ∧ Below w.heap.size w w' := by
  go_enter Try.func10, Try.ntmps10
  go_wp2
  go_loop [3, 4] (fun s i => s = .string ⟨#[]⟩ ∧ i = .int .i64 0) (fun _ _ => 0)
  case atStart => exact ⟨rfl, rfl⟩
  case round =>
    obtain ⟨rfl, rfl⟩ := hrel
    go_wp2
    go_ret
    exact ⟨rfl, Below.refl _ _⟩

def AllB (xs : List Int) : Prop := ∀ i, 0 ≤ xs.getD i 0 ∧ xs.getD i 0 < 256

/-- escrow.Words. -/
theorem words_any (v : Value) (xs : List Int) (w : World) (hn : xs.length ≤ 3000) (ax : AllB xs) (h : View w v xs) :
    Calls Try.prog 9 #[v] w fun e w' => e = .returned (.string ⟨(wl xs (xs.length / 2)).toArray⟩) ∧ Below w.heap.size w w' := by
  obtain ⟨a, c, rfl, h1, h2, h3, h4⟩ := h
  rcases h4 with rfl | ⟨b, off, rfl, hc⟩
  · exact words_zero a c w
  · exact words_core b off xs.length c xs w hn ax h1 (by unfold maxLen at h2; omega) hc
/-- cofferref11.Words. -/
theorem rwords_any (v : Value) (xs : List Int) (w : World) (hn : xs.length ≤ 3000) (ax : AllB xs) (h : View w v xs) :
    Calls Try.prog 10 #[v] w fun e w' => e = .returned (.string ⟨(wl xs (xs.length / 2)).toArray⟩) ∧ Below w.heap.size w w' := by
  obtain ⟨a, c, rfl, h1, h2, h3, h4⟩ := h
  rcases h4 with rfl | ⟨b, off, rfl, hc⟩
  · exact rwords_zero a c w
  · exact rwords_core b off xs.length c xs w hn ax h1 (by unfold maxLen at h2; omega) hc

set_option maxHeartbeats 400000 in
/-- cut. -/
theorem cut_any (v : Value) (xs : List Int) (w : World) (h : View w v xs) :
    Calls Try.prog 7 #[v, .int .i64 3000] w fun e w' => ∃ v', e = .returned v' ∧ View w v' (xs.take 3000) ∧ w' = w := by
  obtain ⟨a, c, rfl, h1, h2, h3, h4⟩ := h
  unfold maxLen at h2
  by_cases hl : 3000 < xs.length
  · have q : (3000 : Int) < (xs.length : Int) := by omega
    have hlen : (xs.take 3000).length = 3000 := by rw [List.length_take]; omega
    have hV : View w (.slice a 3000 c) (xs.take 3000) := by
      refine ⟨a, c, by rw [hlen], by omega, by unfold maxLen; omega, h3, ?_⟩
      rcases h4 with rfl | ⟨b, off, rfl, hc⟩
      · simp at hl
      · refine .inr ⟨b, off, rfl, fun i hi => ?_⟩
        rw [hlen] at hi
        rw [hc i (by omega)]
        simp [List.getD, hi]
    have HV : Hid (View w (.slice a 3000 c) (xs.take 3000)) := hV
    clear hV h4 hlen
    generalize xs.length = n at h1 hl q
    go_enter Try.func7, Try.ntmps7
    go_wp2
    go_ret
    exact ⟨_, rfl, HV, rfl⟩
  · have hV : View w (.slice a xs.length c) (xs.take 3000) := by
      rw [List.take_of_length_le (by omega)]
      exact ⟨a, c, rfl, h1, by unfold maxLen; omega, h3, h4⟩
    have HV : Hid (View w (.slice a xs.length c) (xs.take 3000)) := hV
    clear hV h4
    generalize xs.length = n at h1 hl HV
    have q : ¬ (3000 : Int) < (n : Int) := by omega
    go_enter Try.func7, Try.ntmps7
    go_wp2
    go_ret
    exact ⟨_, rfl, HV, rfl⟩

theorem allB_take {xs : List Int} (h : AllB xs) (k : Nat) : AllB (xs.take k) := by
  intro i
  have := h i
  by_cases hi : i < k
  · simpa [List.getD, List.getElem?_take, hi] using this
  · simp [List.getD, List.getElem?_take, hi]

set_option maxHeartbeats 1000000 in
theorem law_ok (v : Value) (xs : List Int) (w : World) (ax : AllB xs) (h : View w v xs) :
    Calls Try.prog 4 #[v] w fun e w' => e = .returned (.bool true) ∧ Below w.heap.size w w' := by
  have HX : Hid (AllB (xs.take 3000)) := allB_take ax 3000
  have hl : Hid ((xs.take 3000).length ≤ 3000) := by rw [List.length_take]; exact Nat.min_le_left _ _
  have H0 : Hid (View w v xs) := h
  clear ax h
  go_enter Try.func4, Try.ntmps4
  go_wp2_with (go_at_call 7; refine (cut_any v xs _ H0.out).mono ?_; rintro e w1 ⟨v1, rfl, hv1, hw1⟩; obtain rfl := hw1.symm)
  have H1 : Hid (View w v1 (xs.take 3000)) := hv1
  clear hv1 H0
  generalize xs.take 3000 = ys at HX hl H1
  go_wp2_with (go_at_call 8; refine (copy_any v1 ys _ (by have := hl.out; omega) H1.out).mono ?_; rintro e w2 ⟨v2, rfl, hm2, hb2⟩)
  have HM2 : Hid (Marked w.heap.size w2 v2 ys) := hm2
  have HB2 : Hid (Below w.heap.size w w2) := hb2
  clear hm2 hb2
  go_wp2_with (go_at_call 9; refine (words_any v2 ys _ hl.out HX.out HM2.out.view).mono ?_; rintro e w3 ⟨rfl, hb3⟩)
  have HV1 : Hid (View w3 v1 ys) := (H1.out.kept HB2.out.block).kept hb3.block
  have HM3 : Hid (Marked w.heap.size w3 v2 ys) := HM2.out.kept hb3.block
  have HB3 : Hid (Below w.heap.size w w3) := HB2.out.trans (hb3.mono HB2.out.size)
  clear hb3 HM2 HB2 H1
  go_wp2_with (go_at_call 10; refine (rwords_any v1 ys _ hl.out HX.out HV1.out).mono ?_; rintro e w4 ⟨rfl, hb4⟩)
  have HV4 : Hid (View w4 v1 ys) := HV1.out.kept hb4.block
  have HM4 : Hid (Marked w.heap.size w4 v2 ys) := HM3.out.kept hb4.block
  have HB4 : Hid (Below w.heap.size w w4) := HB3.out.trans (hb4.mono HB3.out.size)
  clear hb4 HM3 HB3 HV1
  go_wp2_with (go_at_call 11; refine (whole_any v2 v1 ys _ _ HM4.out HV4.out).mono ?_; rintro e w5 ⟨rfl, m, rfl⟩)
  go_wp2
  go_ret
  exact ⟨rfl, below_drewN0 HB4.out m⟩
end Go.Proofs.Ytgenigagkdoghaa
