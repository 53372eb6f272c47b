import Derived.Test.YtohhjohpdfbdoaaWd
import Derived.RangeFuncNested
import Derived.RangeFuncBound
import Derived.RangeFuncCalls
import Derived.RangeFuncLeaves
import Derived.Shelf.RegionOpen
import Derived.OwnWalkIn
import Derived.TacticsInMore
import Derived.LoopNIn
import Derived.LoopIn
namespace Go.Proofs.Ytohhjohpdfbdoaa
open Go.RowKit
set_option linter.unusedVariables false
set_option linter.unusedSimpArgs false
attribute [local go_sem] Oper.semAt_some
variable {w w' : World} {g : Nat} {s : ByteArray} {i j : Nat}
theorem put_f (a : Acc) (f : Fd) : (a.put f).f = a.f + 1 := by unfold Acc.put; split; rfl; split <;> rfl
def FsQ (g : Nat) (s : ByteArray) (i : Nat) (a : Acc) (J : Acc → World → Prop) (e : Ending) (W' : World) : Prop :=
  (∃ a', e = .returned (.tuple #[]) ∧ R s i a .ahead = .good a' ∧ J a' W' ∧ a'.f ≤ 4096) ∨ (∃ a' p, e = fault p ∧ R s i a .ahead = .bad p ∧ J a' W')
set_option maxHeartbeats 4000000 in
set_option maxRecDepth 100000 in
theorem fields1_in (n : Nat) (l g B : Nat) (s : ByteArray) (i0 : Nat) (a0 : Acc) (J : Acc → World → Prop)
    (hJk : ∀ a W W', J a W → W.grownBy W' (some g) → J a W') (hJb : ∀ a W, J a W → W.cell? ⟨B, 0, none⟩ = some (.pointer (some ⟨g, 0, none⟩)))
    (hY : ∀ a W i f, J a W → Rd W g s i → a.f ≤ 4096 → YieldAt Fence.wide (n - 1) Try.prog l #[.int .i64 (a.f : Nat), Fd.val f] W fun e W' => e = .returned (.bool true) ∧ J (a.put f) W' ∧ Rd W' g s i)
    (W : World) (h0 : J a0 W) (k0 : Rd W g s i0) (hf0 : a0.f = 0) :
    CallsIn Fence.wide n Try.prog 21 #[.func (.yield l) #[] #[], .pointer (some ⟨B, 0, none⟩)] W (FsQ g s i0 a0 J) := by
  have hmo := k0.most
  have hfn : ∀ k, Fence.wide.fn k = True := fun _ => rfl
  have hdp : Fence.wide.depth = none := rfl
  refine callsIn_of_wp Try.func21 rfl trivial ?_ rfl
  simp only [Try.ntmps21, List.size_toArray, List.length_cons, List.length_nil, Nat.reduceAdd, Nat.reduceSub, Array.replicate_succ, Array.replicate_zero, List.push_toArray, List.append_toArray, List.nil_append, List.cons_append]
  gi_wp2
  gi_loopw [3] (fun v wr => ∃ a i, v = .int .i64 (a.f : Nat) ∧ a.f ≤ i ∧ Hid (J a wr) ∧ Rd wr g s i ∧ Hid (R s i0 a0 .ahead = R s i a .ahead)) (fun _ wr => left s g wr)
  case atStart => exact ⟨a0, i0, by rw [hf0]; rfl, by omega, h0, k0, rfl⟩
  case round =>
    obtain ⟨a, i, rfl, hai, hJ, k1, hR⟩ := hrel
    have hme := k1.left_eq
    have hi := k1.le
    have hb := hJb _ _ hJ.out
    gi_wp2_with (gi_at_call 22; refine ((callsIn_wide (n := _)).2 (blanks_ok k1 a)).mono ?_; rintro e w2 ⟨j, rfl, hij, k2, hR2, hnb, g2⟩; have hb2 := hJb _ _ (hJk _ _ _ hJ.out g2))
    gi_wp2_with (gi_at_call 23; refine ((callsIn_wide (n := _)).2 (comment_ok k2 a)).mono ?_)
    rintro e w3 (⟨j2, rfl, k3, hR3, hj2, g3⟩ | ⟨p, rfl, hR3, g3⟩)
    · have hb3 := hJb _ _ (hJk _ _ _ hJ.out (g2.trans g3))
      by_cases he : j2 = s.size
      · have hR4 : R s i0 a0 .ahead = .good a := (hR.out.trans (hR2.trans hR3)).trans (R_end s j2 he rfl)
        have HE : Hid (j2 = s.size) := he
        clear he hj2
        gi_wp2_with (gi_at_call 24; refine ((callsIn_wide (n := _)).2 (ended_ok k3)).mono ?_; rintro e w4 ⟨rfl, g4⟩; rw [show decide (j2 = s.size) = true from decide_eq_true HE.out])
        first | go_end0 | refine bodyPost_ret (results_none rfl _ _ _) rfl ?_
        exact .inl ⟨a, rfl, hR4, hJk _ _ _ hJ.out ((g2.trans g3).trans (g4.but _)), by omega⟩
      · have he2 : decide (j2 = s.size) = false := decide_eq_false he
        have hlt : j2 < s.size := by have := k3.le; omega
        obtain ⟨rfl, h35⟩ := hj2.resolve_left he
        have HB : Hid (¬ blank (nx s j2)) := hnb
        have H35 : Hid (nx s j2 ≠ 35) := h35
        have haf : a.f ≤ 4096 := by omega
        have wr2 : IntKind.i64.wrap ((a.f : Int) + 1) = (a.f : Int) + 1 := by rw [IntKind.wrap_i64]; omega
        clear he hj2 hnb h35
        gi_wp2_with (first
          | (gi_at_call 24; refine ((callsIn_wide (n := _)).2 (ended_ok k3)).mono ?_; rintro e w4 ⟨rfl, g4⟩; rw [he2]; have k4 := k3.still g4; have hb4 := hJb _ _ (hJk _ _ _ hJ.out ((g2.trans g3).trans (g4.but _))))
          | (gi_at_call 25; refine ((callsIn_wide (n := _)).2 (field_ok k4 a a.f rfl haf hlt HB H35)).mono ?_))
        rintro e w5 (⟨f, j5, rfl, hj5, k5, hR5, g5⟩ | ⟨p, rfl, hR5, g5⟩)
        · obtain ⟨fn, tmps, assign, body, hy, hRo⟩ := hY a w5 j5 f (hJk _ _ _ hJ.out (((g2.trans g3).trans (g4.but _)).trans g5)) k5 haf
          gi_wp2
          refine hRo.mono ?_
          rintro e w6 ⟨rfl, hJ6, k6⟩
          have hR6 : Hid (R s i0 a0 .ahead = R s j5 (a.put f) .ahead) := (hR.out.trans hR2).trans hR5
          have hpf := put_f a f
          have hJ7 : Hid (J (a.put f) w6) := hJ6
          have hme6 := k6.left_eq
          have hk5 := k5.le
          clear hy hRo hJ6 hR5 hR3 hR2
          gi_wp2
          go_roundw
          case rel => exact ⟨a.put f, j5, by rw [hpf]; go_num, by omega, hJ7, k6, hR6⟩
          case measure => omega
        · exact ⟨rfl, .inr ⟨a, p, rfl, (hR.out.trans hR2).trans hR5, hJk _ _ _ hJ.out (((g2.trans g3).trans (g4.but _)).trans g5)⟩⟩
    · exact ⟨rfl, .inr ⟨a, p, rfl, hR.out.trans (hR2.trans hR3), hJk _ _ _ hJ.out (g2.trans g3)⟩⟩
end Go.Proofs.Ytohhjohpdfbdoaa
