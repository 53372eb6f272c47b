import Derived.Test.YtioggmjocelolaaRead
import Derived.Test.YtioggmjocelolaaRefHex
import Derived.Test.YtioggmjocelolaaRefB64
import Derived.Test.YtioggmjocelolaaWhole
namespace Go.Proofs.Ytioggmjocelolaa.digestTexts
open Go.RowKit

theorem pair13 (s : ByteArray) (w : World) (hs : s.size ≤ 65536) :
    Calls Try.prog 19 #[.string s] w fun e w' => ∃ v c p, e = .returned (.tuple #[v, .int .i64 c, .int .i64 p]) ∧ Below w.heap.size w w' ∧
      ∀ w2, Below w'.heap.size w' w2 → Calls Try.prog 21 #[.func (.func 13) #[] #[], .string s, v, .int .i64 c, .int .i64 p] w2 fun e w3 => e = .returned (.bool true) ∧ Below w2.heap.size w2 w3 := by
  by_cases hg : HexGood s
  · refine (rfromHex_good s w (by omega) hg).mono ?_
    rintro e w' ⟨v, rfl, ov, b⟩
    refine ⟨v, 0, 0, rfl, b, fun w2 h2 => ?_⟩
    exact read_good13 s (s.size / 2) v _ w2 (by omega) hg (by omega) rfl rfl ((view_of_own ov).1.kept h2.block)
  · obtain ⟨p, hp⟩ := hexPlace_of s hg
    refine (rfromHex_at s p w (by omega) hp).mono ?_
    rintro e w' ⟨rfl, hw⟩
    obtain rfl := hw.symm
    exact ⟨_, 13, p, rfl, Below.refl _ _, fun w2 _ => read_bad13 s p w2 (by omega) hp⟩
theorem pair14 (s : ByteArray) (w : World) (hs : s.size ≤ 65536) :
    Calls Try.prog 20 #[.string s] w fun e w' => ∃ v c p, e = .returned (.tuple #[v, .int .i64 c, .int .i64 p]) ∧ Below w.heap.size w w' ∧
      ∀ w2, Below w'.heap.size w' w2 → Calls Try.prog 21 #[.func (.func 14) #[] #[], .string s, v, .int .i64 c, .int .i64 p] w2 fun e w3 => e = .returned (.bool true) ∧ Below w2.heap.size w2 w3 := by
  by_cases hg : B64Good s
  · refine (rfromB64_good s w (by omega) hg).mono ?_
    rintro e w' ⟨v, rfl, ov, b⟩
    refine ⟨v, 0, 0, rfl, b, fun w2 h2 => ?_⟩
    refine read_good14 s _ v _ w2 (by omega) hg ?_ rfl rfl ((view_of_own ov).1.kept h2.block)
    have h4m : (nums s).length = 4 * (s.size / 4) := by rw [nums_length]; have := hg.2; omega
    rw [← unq_eq (s.size / 4) (nums s) h4m]
    have := unq_length (nums s) (s.size / 4)
    omega
  · obtain ⟨p, hp⟩ := b64Place_of s hg
    refine (rfromB64_at s p w (by omega) hp).mono ?_
    rintro e w' ⟨rfl, hw⟩
    obtain rfl := hw.symm
    exact ⟨_, 14, p, rfl, Below.refl _ _, fun w2 _ => read_bad14 s p w2 (by omega) hp⟩

set_option maxHeartbeats 400000 in
theorem walk_long (v0 : Value) (xs : List Int) (s : ByteArray) (w : World) (h0 : View w v0 xs) (hl : 65536 < s.size ∨ 65536 < xs.length) :
    Calls Try.prog 5 #[.string s, v0] w fun e w' => e = .returned (.bool true) ∧ Below w.heap.size w w' := by
  obtain ⟨a, c, rfl, _⟩ := h0
  generalize xs.length = n at hl ⊢
  by_cases hn : 65536 < s.size
  · have h1 : decide ((65536 : Int) < (s.size : Int)) = true := by simp; omega
    clear hl hn
    go_enter Try.func5, Try.ntmps5
    go_wp2
    go_ret
    exact ⟨rfl, Below.refl _ _⟩
  · have h1 : decide ((65536 : Int) < (s.size : Int)) = false := by simp; omega
    have h2 : decide ((65536 : Int) < (n : Int)) = true := by simp; omega
    clear hl hn
    go_enter Try.func5, Try.ntmps5
    go_wp2
    go_ret
    exact ⟨rfl, Below.refl _ _⟩

set_option maxHeartbeats 3200000 in
set_option maxRecDepth 100000 in
theorem walk_short (v0 : Value) (xs : List Int) (s : ByteArray) (w : World) (ax : AllBytes xs) (hn : xs.length ≤ 65536) (hs : s.size ≤ 65536) (hv0 : View w v0 xs) :
    Calls Try.prog 5 #[.string s, v0] w fun e w' => e = .returned (.bool true) ∧ Below w.heap.size w w' := by
  have HV : Hid (View w v0 xs) := hv0
  obtain ⟨a0, c0, he0, _⟩ := hv0
  obtain ⟨n, hxl⟩ : ∃ n, n = xs.length := ⟨_, rfl⟩
  rw [← hxl] at he0
  have HN : Hid (xs.length ≤ 65536) := hn
  have hn' : n ≤ 65536 := by omega
  subst he0
  have h1 : decide ((65536 : Int) < (n : Int)) = false := by simp; omega
  have h2 : decide ((65536 : Int) < (s.size : Int)) = false := by simp; omega
  clear hxl hn
  go_enter Try.func5, Try.ntmps5
  go_wp2_with fail
  refine (copy_any _ xs _ (by have := HN.out; omega) HV.out).mono ?_
  rintro e w1 ⟨x, rfl, mx, b1⟩
  have M1 : Hid (Marked w.heap.size w1 x xs) := mx
  have V1 : Hid (View w1 (.slice a0 n c0) xs) := HV.out.kept b1.block
  have B1 : Hid (Below w.heap.size w w1) := b1
  clear mx b1 HV
  go_wp2_with fail
  refine (hex_any _ xs _ HN.out ax M1.out.view).mono ?_
  rintro e w2 ⟨rfl, b2⟩
  have M2 : Hid (Marked w.heap.size w2 x xs) := M1.out.kept b2.block
  have V2 : Hid (View w2 (.slice a0 n c0) xs) := V1.out.kept b2.block
  have B2 : Hid (Below w.heap.size w w2) := B1.out.trans (b2.mono B1.out.size)
  clear b2 B1 M1 V1
  go_wp2_with fail
  refine (rhex_any _ xs _ HN.out ax V2.out).mono ?_
  rintro e w3 ⟨rfl, b3⟩
  have M3 : Hid (Marked w.heap.size w3 x xs) := M2.out.kept b3.block
  have V3 : Hid (View w3 (.slice a0 n c0) xs) := V2.out.kept b3.block
  have B3 : Hid (Below w.heap.size w w3) := B2.out.trans (b3.mono B2.out.size)
  clear b3 B2 M2 V2
  generalize strOfNums (hexBytes xs) = H
  go_wp2_with fail
  refine (b64_any _ xs _ HN.out ax M3.out.view).mono ?_
  rintro e w4 ⟨rfl, b4⟩
  have M4 : Hid (Marked w.heap.size w4 x xs) := M3.out.kept b4.block
  have V4 : Hid (View w4 (.slice a0 n c0) xs) := V3.out.kept b4.block
  have B4 : Hid (Below w.heap.size w w4) := B3.out.trans (b4.mono B3.out.size)
  clear b4 B3 M3 V3
  go_wp2_with fail
  refine (rb64_any _ xs _ HN.out ax V4.out).mono ?_
  rintro e w5 ⟨rfl, b5⟩
  have M5 : Hid (Marked w.heap.size w5 x xs) := M4.out.kept b5.block
  have V5 : Hid (View w5 (.slice a0 n c0) xs) := V4.out.kept b5.block
  have B5 : Hid (Below w.heap.size w w5) := B4.out.trans (b5.mono B4.out.size)
  clear b5 B4 M4 V4
  generalize strOfNums (b64 xs) = X
  go_wp2_with fail
  refine (whole_any _ _ xs _ _ M5.out V5.out).mono ?_
  rintro e w6 ⟨rfl, m6, rfl⟩
  have B6 : Hid (Below w.heap.size w (w5.drewN m6)) := ⟨B5.out.os, B5.out.tape, B5.out.output, B5.out.size, B5.out.block⟩
  generalize w5.drewN m6 = w6 at B6 ⊢
  clear B5 M5 V5
  go_wp2_with fail
  refine (pair13 s _ hs).mono ?_
  rintro e w7 ⟨v7, c7, p7, rfl, b7, r7⟩
  have R7 : Hid (∀ w2, Below w7.heap.size w7 w2 → Calls Try.prog 21 #[.func (.func 13) #[] #[], .string s, v7, .int .i64 c7, .int .i64 p7] w2 fun e w3 => e = .returned (.bool true) ∧ Below w2.heap.size w2 w3) := r7
  have B7 : Hid (Below w.heap.size w w7) := B6.out.trans (b7.mono B6.out.size)
  clear r7 b7 B6
  go_wp2_with fail
  refine (pair14 s _ hs).mono ?_
  rintro e w8 ⟨v8, c8, p8, rfl, b8, r8⟩
  have R8 : Hid (∀ w2, Below w8.heap.size w8 w2 → Calls Try.prog 21 #[.func (.func 14) #[] #[], .string s, v8, .int .i64 c8, .int .i64 p8] w2 fun e w3 => e = .returned (.bool true) ∧ Below w2.heap.size w2 w3) := r8
  have B8 : Hid (Below w.heap.size w w8) := B7.out.trans (b8.mono B7.out.size)
  have T8 : Hid (Below w7.heap.size w7 w8) := b8
  clear r8 b8 B7
  go_wp2_with fail
  refine (R7.out _ T8.out).mono ?_
  rintro e w9 ⟨rfl, b9⟩
  have B9 : Hid (Below w.heap.size w w9) := B8.out.trans (b9.mono B8.out.size)
  have T9 : Hid (Below w8.heap.size w8 w9) := b9
  clear b9 B8 R7 T8
  go_wp2_with fail
  refine (R8.out _ T9.out).mono ?_
  rintro e wa ⟨rfl, ba⟩
  have BA : Hid (Below w.heap.size w wa) := B9.out.trans (ba.mono B9.out.size)
  clear ba B9 R8 T9
  go_wp2_with fail
  go_ret
  exact ⟨rfl, BA⟩

/-- The law, of any input. -/
theorem walk (v0 : Value) (xs : List Int) (s : ByteArray) (w : World) (ax : AllBytes xs) (h0 : View w v0 xs) :
    Calls Try.prog 5 #[.string s, v0] w fun e w' => e = .returned (.bool true) ∧ Below w.heap.size w w' := by
  by_cases hn : xs.length ≤ 65536
  · by_cases hs : s.size ≤ 65536
    · exact walk_short v0 xs s w ax hn hs h0
    · exact walk_long v0 xs s w h0 (.inl (by omega))
  · exact walk_long v0 xs s w h0 (.inr (by omega))
end Go.Proofs.Ytioggmjocelolaa.digestTexts
