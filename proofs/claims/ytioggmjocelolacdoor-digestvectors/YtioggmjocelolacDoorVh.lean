import Derived.Test.YtioggmjocelolacDoorRv
import Derived.Test.YtioggmjocelolacDoorB64
import Derived.Test.YtioggmjocelolacDoorXErr
namespace Go.Proofs.YtioggmjocelolacDoor
open Go.RowKit
set_option linter.unusedVariables false
set_option linter.unusedSimpArgs false
set_option maxHeartbeats 800000 in
set_option maxRecDepth 100000 in
/-- hexed. -/
theorem hexed_ok (h : Int) (yss : List (List Int)) (v : Value) (w : World) (d : List Int) (S : ByteArray) (k : Hid (Known h)) (hp : Hid (∀ u g, Below w.heap.size w u → w.heap.size ≤ g → Parts u g v yss)) (hT : Hid (Tables w)) (hs : Hid (yss.flatten.length ≤ 33554432)) (hd : Hid (sumD h yss.flatten = d)) (hb : Hid (AllBytes d)) (hS : Hid (strOfNums (hexBytes d) = S)) :
    Calls Tryd.prog 9 #[.int .i64 h, v] w fun e w' => e = .returned (.string S) ∧ Below w.heap.size w w' := by
  obtain ⟨n, HN⟩ : ∃ n : Nat, Hid (n = szOf h) := ⟨_, (show _ = _ from rfl)⟩
  have H34 : Hid (Calls Tryd.prog 34 #[.int .i64 h, v] w fun e w' => Hid (∃ b, e = .returned (.tuple #[.slice (some ⟨b, 0, none⟩) n n, .int .i64 0]) ∧ View w' (.slice (some ⟨b, 0, none⟩) n n) d ∧ Below w.heap.size w w')) := by
    have q := dsum h yss v w k hp hT hs
    rw [← HN.out] at q
    refine q.mono ?_
    rintro e w' ⟨b, q1, q2, q3⟩
    have hdl : d.length = n := by rw [← hd.out, HN.out]; exact sumD_length h k.out _
    refine ⟨b, q1, viewOwns (B := w.heap.size) ?_ hdl, q3⟩
    rw [← hd.out]
    unfold sumD
    rw [← HN.out]
    exact q2
  go_enter Tryd.func9, Tryd.ntmps9
  go_wp2_with (go_at_call 34; refine H34.out.mono ?_)
  intro e1 w1 hh
  obtain ⟨b, rfl, hv, hb1⟩ := hh.out
  have HB1 : Hid (Below w.heap.size w w1) := hb1
  have HX : Hid (Calls Tryd.prog 12 #[.slice (some ⟨b, 0, none⟩) n n] w1 fun e w' => e = .returned (.string S) ∧ Below w1.heap.size w1 w') := by
    rw [← hS.out]
    have hdl : d.length = n := by rw [← hd.out, HN.out]; exact sumD_length h k.out _
    exact hex_any _ d w1 (by have := szOf_pos k.out; rw [hdl, HN.out]; omega) hb.out hv
  clear hh hv hb1 H34
  go_wp2_with (first
    | (go_at_call 11; refine (num_any _ _ (by decide) (by decide)).mono ?_; rintro e2 wx ⟨rfl, hwx⟩; obtain rfl := hwx.symm)
    | (go_at_call 12; refine HX.out.mono ?_))
  rintro e3 w3 ⟨rfl, hb3⟩
  have HB3 : Hid (Below w.heap.size w w3) := HB1.out.trans (hb3.mono HB1.out.size)
  clear hb3
  go_wp2
  go_ret
  exact ⟨rfl, HB3.out⟩
theorem hexed1 (h : Int) (x : Value) (ys : List Int) (d : List Int) (S : ByteArray) (u : World) (t : TypeId) (k : Known h) (hx : View u x ys) (hT : Tables u) (hl : ys.length ≤ 33554432) (hd : sumD h ys = d) (hb : AllBytes d) (hS : strOfNums (hexBytes d) = S) :
    Calls Tryd.prog 9 #[.int .i64 h, .slice (some ⟨u.heap.size, 0, none⟩) 1 1] (u.alloc (.cells #[x] t)) fun e w' => e = .returned (.string S) ∧ Below u.heap.size u w' := by
  refine (hexed_ok h [ys] _ _ d S k (fun v g hb hg => ?_) (hT.below (below_alloc1 u _) hT.size) (by show _ ≤ _; simpa using hl) (by show _ = _; simpa using hd) hb hS).mono ?_
  · rw [size_alloc1] at hg
    have hp := parts1_alloc (u := u) t x ys g hx (by omega) (fun h0 b off l c e => by have := view_lt hx h0 b off l c e; omega)
    exact parts_keep hp (fun q hq => hb.block q (by rw [size_alloc1] at hq ⊢; exact hq))
  · rintro e w' ⟨q1, q2⟩
    exact ⟨q1, (below_alloc1 u _).trans (q2.mono (by rw [size_alloc1]; omega))⟩
theorem parts_none (w : World) (g : Nat) : Parts w g (.slice none 0 0) [] := ⟨none, 0, rfl, by simp, by simp [maxLen], .inl rfl⟩
end Go.Proofs.YtioggmjocelolacDoor
