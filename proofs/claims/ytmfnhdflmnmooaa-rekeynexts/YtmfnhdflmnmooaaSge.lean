import Derived.Test.YtmfnhdflmnmooaaSgd
import Derived.OwnWalk
import Derived.Deep.AppendLies
import Derived.Deep.DeepMust
namespace Go.Proofs.Ytmfnhdflmnmooaa.Sx
open Go.RowKit
set_option linter.unusedVariables false
set_option linter.unusedSimpArgs false
theorem Item.alloc {W : World} {B : Nat} {x : Sg} (h : Item W B x) (o : Obj) : Item (W.alloc o) B x := h.kept (World.grownBy_alloc W o none) (by simp)
theorem kept_tt {x y : Sg} (h : 0 < x.2.1) (k : 0 < y.2.1) : kept [x, y] = [x, y] := by simp [kept, h, k]
theorem kept_tf {x y : Sg} (h : 0 < x.2.1) (k : ¬ 0 < y.2.1) : kept [x, y] = [x] := by simp [kept, h, k]
theorem kept_ft {x y : Sg} (h : ¬ 0 < x.2.1) (k : 0 < y.2.1) : kept [x, y] = [y] := by simp [kept, h, k]
theorem kept_ff {x y : Sg} (h : ¬ 0 < x.2.1) (k : ¬ 0 < y.2.1) : kept [x, y] = [] := by simp [kept, h, k]
theorem own_base {w : World} {b : Nat} {e : TypeId} {s g n c m : Nat} {xs : List Value} (h : w.ownsRow b e s (.slice (some ⟨g, 0, none⟩) m c) n xs) : b ≤ g := by
  rcases h.2 with ⟨h, _⟩ | ⟨g', cap, cur, a, bb, c⟩
  · cases h
  · cases a
    exact bb
theorem below_grown {n : Nat} {w u v : World} {b : Option Nat} (h : Below n w u) (g : u.grownBy v b) (hs : n ≤ u.heap.size) (hb : ∀ j, b = some j → n ≤ j) : Below n w v := h.grown g hs hb
set_option maxRecDepth 100000 in
set_option maxHeartbeats 4000000 in
theorem rseg_a (n fr to : Nat) (mode hot : Int) (done : Nat) (ao az : Int) (act : Bool) (cnt : Int) (sum : ByteArray) (k : Nat) (w : World)
    (q1 : decide (((n : Nat) : Int) < 1) = false) (q2 : decide ((4294967296 : Int) < (n : Nat)) = false) (q3 : decide (n < done) = false) (hw : IntKind.u64.wrap ((n : Int) - (done : Nat)) = (k : Int)) :
    Calls Try.prog 30 #[.int .u64 (n : Nat), .agg (rotC { on := true, fr := fr, to := to, back := false, mode := mode, hot := hot, done := done, ao := ao, az := az, act := act, cnt := cnt, sum := sum })] w (SegP w (kept [((0, done, to) : Sg), ((done, k, fr) : Sg)]) 0) := by
  obtain ⟨i0, hi, hz0, hz1, hz2⟩ := info_parts info53
  go_enter Try.func30, Try.ntmps30
  go_upto_region 9 with fail
  generalize hW : ((w.alloc (.cells (rotC { on := true, fr := fr, to := to, back := false, mode := mode, hot := hot, done := done, ao := ao, az := az, act := act, cnt := cnt, sum := sum }) 33)).alloc (.cells #[.int .u64 0, .int .u64 (done : Nat), .int .u64 (to : Nat)] 65)).alloc (.cells #[.int .u64 (done : Nat), .int .u64 (k : Nat), .int .u64 (fr : Nat)] 65) = W
  have I1 : Item W (w.heap.size + 1) (0, done, to) := by
    rw [← hW]
    have q := (Item.new (w.alloc (.cells (rotC { on := true, fr := fr, to := to, back := false, mode := mode, hot := hot, done := done, ao := ao, az := az, act := act, cnt := cnt, sum := sum }) 33)) (0, done, to)).alloc (.cells #[.int .u64 (done : Nat), .int .u64 (k : Nat), .int .u64 (fr : Nat)] 65)
    rw [World.size_alloc] at q
    exact q
  have I2 : Item W (w.heap.size + 1 + 1) (done, k, fr) := by
    rw [← hW]
    have q := Item.new ((w.alloc (.cells (rotC { on := true, fr := fr, to := to, back := false, mode := mode, hot := hot, done := done, ao := ao, az := az, act := act, cnt := cnt, sum := sum }) 33)).alloc (.cells #[.int .u64 0, .int .u64 (done : Nat), .int .u64 (to : Nat)] 65)) (done, k, fr)
    simp only [World.size_alloc] at q
    exact q
  have hB : Below w.heap.size w W := by
    rw [← hW]
    exact (((Below.refl _ w).alloc (Nat.le_refl _) _).alloc (by simp) _).alloc (by simp; omega) _
  clear hW
  have hsz := hB.size
  have hrow0 : W.ownsRow w.heap.size 65 3 (.slice none 0 0) 0 [] := World.ownsRow_nil _ _ _ _
  have c0 := I1.c0
  have c1 := I1.c1
  have c2 := I1.c2
  have d0 := I2.c0
  have d1 := I2.c1
  have d2 := I2.c2
  by_cases hx : 0 < done
  · have q4 : decide ((0 : Int) < (done : Nat)) = true := by simp; omega
    go_upto_region 11 with (at_builtin; go_must (refine wpList_append_own _ rfl (.tmp 61) (.tmp 63) 29 rfl w.heap.size 65 i0 (.agg #[.int .u64 0, .int .u64 0, .int .u64 0]) 3 24 Try.underlying29 hi hz0 hz1 hz2 rfl (by decide) (.slice none 0 0) 0 [] rfl (hrow0.alloc _) ⟨W.heap.size, 0, none⟩ 1 1 (sgL (0, done, to)) rfl rfl (three_new _ _ _ _ _) (by simp [Value.oneCell']) (by unfold maxLen; omega) (by omega) (by simp; omega) ?_); intro v1 w1 own1 gr1 _; obtain ⟨g1, cap1, rfl⟩ := ownsRow_succ own1; have J2 := (I2.alloc (.cells #[.int .u64 0, .int .u64 (done : Nat), .int .u64 (to : Nat)] 65)).kept gr1 (by simp [Value.ownBlock]); have hB1 := below_grown (hB.alloc hsz (.cells #[.int .u64 0, .int .u64 (done : Nat), .int .u64 (to : Nat)] 65)) gr1 (by simp; omega) (by simp [Value.ownBlock]))
    clear c0 c1 c2 d0 d1 d2
    have d0 := J2.c0
    have d1 := J2.c1
    have d2 := J2.c2
    have hsz1 := hB1.size
    by_cases hy : 0 < k
    · have q5 : decide ((0 : Int) < (k : Nat)) = true := by simp; omega
      have hk := kept_tt (x := (0, done, to)) (y := (done, k, fr)) hx hy
      go_wp2_with (at_builtin; go_must (refine wpList_append_own _ rfl (.tmp 68) (.tmp 70) 29 rfl w.heap.size 65 i0 (.agg #[.int .u64 0, .int .u64 0, .int .u64 0]) 3 24 Try.underlying29 hi hz0 hz1 hz2 rfl (by decide) (.slice (some ⟨g1, 0, none⟩) (0 + 1) cap1) (0 + 1) _ rfl (own1.alloc _) ⟨w1.heap.size, 0, none⟩ 1 1 (sgL (done, k, fr)) rfl rfl (three_new _ _ _ _ _) (by simp [Value.oneCell']) (by unfold maxLen; omega) (by omega) (by simp; omega) ?_); intro v2 w2 own2 gr2 _; obtain ⟨g2, cap2, rfl⟩ := ownsRow_succ own2; have hB2 := below_grown (hB1.alloc hsz1 (.cells #[.int .u64 (done : Nat), .int .u64 (k : Nat), .int .u64 (fr : Nat)] 65)) gr2 (by simp; omega) (by simp [Value.ownBlock]; exact own_base own1))
      go_ret2
      exact ⟨_, rfl, by simpa [sgs] using own2, by simp, hB2⟩
    · have q5 : decide ((0 : Int) < (k : Nat)) = false := by simp; omega
      have hk := kept_tf (x := (0, done, to)) (y := (done, k, fr)) hx hy
      go_wp2
      go_ret2
      exact ⟨_, rfl, by simpa [sgs] using own1, by simp, hB1⟩
  · have q4 : decide ((0 : Int) < (done : Nat)) = false := by simp; omega
    by_cases hy : 0 < k
    · have q5 : decide ((0 : Int) < (k : Nat)) = true := by simp; omega
      have hk := kept_ft (x := (0, done, to)) (y := (done, k, fr)) hx hy
      go_wp2_with (at_builtin; go_must (refine wpList_append_own _ rfl (.tmp 68) (.tmp 70) 29 rfl w.heap.size 65 i0 (.agg #[.int .u64 0, .int .u64 0, .int .u64 0]) 3 24 Try.underlying29 hi hz0 hz1 hz2 rfl (by decide) (.slice none 0 0) 0 [] rfl (hrow0.alloc _) ⟨W.heap.size, 0, none⟩ 1 1 (sgL (done, k, fr)) rfl rfl (three_new _ _ _ _ _) (by simp [Value.oneCell']) (by unfold maxLen; omega) (by omega) (by simp; omega) ?_); intro v2 w2 own2 gr2 _; obtain ⟨g2, cap2, rfl⟩ := ownsRow_succ own2; have hB2 := below_grown (hB.alloc hsz (.cells #[.int .u64 (done : Nat), .int .u64 (k : Nat), .int .u64 (fr : Nat)] 65)) gr2 (by simp; omega) (by simp [Value.ownBlock]))
      go_ret2
      exact ⟨_, rfl, by simpa [sgs] using own2, by simp, hB2⟩
    · have q5 : decide ((0 : Int) < (k : Nat)) = false := by simp; omega
      have hk := kept_ff (x := (0, done, to)) (y := (done, k, fr)) hx hy
      go_wp2
      go_ret2
      exact ⟨_, rfl, hrow0, by simp, hB⟩
set_option maxRecDepth 100000 in
set_option maxHeartbeats 4000000 in
theorem rseg_b (n fr to : Nat) (mode hot : Int) (done : Nat) (ao az : Int) (act : Bool) (cnt : Int) (sum : ByteArray) (k : Nat) (w : World)
    (q1 : decide (((n : Nat) : Int) < 1) = false) (q2 : decide ((4294967296 : Int) < (n : Nat)) = false) (q3 : decide (n < done) = false) (hw : IntKind.u64.wrap ((n : Int) - (done : Nat)) = (k : Int)) :
    Calls Try.prog 30 #[.int .u64 (n : Nat), .agg (rotC { on := true, fr := fr, to := to, back := true, mode := mode, hot := hot, done := done, ao := ao, az := az, act := act, cnt := cnt, sum := sum })] w (SegP w (kept [((0, k, fr) : Sg), ((k, done, to) : Sg)]) 0) := by
  obtain ⟨i0, hi, hz0, hz1, hz2⟩ := info_parts info53
  go_enter Try.func30, Try.ntmps30
  go_upto_region 9 with fail
  generalize hW : ((w.alloc (.cells (rotC { on := true, fr := fr, to := to, back := true, mode := mode, hot := hot, done := done, ao := ao, az := az, act := act, cnt := cnt, sum := sum }) 33)).alloc (.cells #[.int .u64 0, .int .u64 (k : Nat), .int .u64 (fr : Nat)] 65)).alloc (.cells #[.int .u64 (k : Nat), .int .u64 (done : Nat), .int .u64 (to : Nat)] 65) = W
  have I1 : Item W (w.heap.size + 1) (0, k, fr) := by
    rw [← hW]
    have q := (Item.new (w.alloc (.cells (rotC { on := true, fr := fr, to := to, back := true, mode := mode, hot := hot, done := done, ao := ao, az := az, act := act, cnt := cnt, sum := sum }) 33)) (0, k, fr)).alloc (.cells #[.int .u64 (k : Nat), .int .u64 (done : Nat), .int .u64 (to : Nat)] 65)
    rw [World.size_alloc] at q
    exact q
  have I2 : Item W (w.heap.size + 1 + 1) (k, done, to) := by
    rw [← hW]
    have q := Item.new ((w.alloc (.cells (rotC { on := true, fr := fr, to := to, back := true, mode := mode, hot := hot, done := done, ao := ao, az := az, act := act, cnt := cnt, sum := sum }) 33)).alloc (.cells #[.int .u64 0, .int .u64 (k : Nat), .int .u64 (fr : Nat)] 65)) (k, done, to)
    simp only [World.size_alloc] at q
    exact q
  have hB : Below w.heap.size w W := by
    rw [← hW]
    exact (((Below.refl _ w).alloc (Nat.le_refl _) _).alloc (by simp) _).alloc (by simp; omega) _
  clear hW
  have hsz := hB.size
  have hrow0 : W.ownsRow w.heap.size 65 3 (.slice none 0 0) 0 [] := World.ownsRow_nil _ _ _ _
  have c0 := I1.c0
  have c1 := I1.c1
  have c2 := I1.c2
  have d0 := I2.c0
  have d1 := I2.c1
  have d2 := I2.c2
  by_cases hx : 0 < k
  · have q4 : decide ((0 : Int) < (k : Nat)) = true := by simp; omega
    go_upto_region 11 with (at_builtin; go_must (refine wpList_append_own _ rfl (.tmp 61) (.tmp 63) 29 rfl w.heap.size 65 i0 (.agg #[.int .u64 0, .int .u64 0, .int .u64 0]) 3 24 Try.underlying29 hi hz0 hz1 hz2 rfl (by decide) (.slice none 0 0) 0 [] rfl (hrow0.alloc _) ⟨W.heap.size, 0, none⟩ 1 1 (sgL (0, k, fr)) rfl rfl (three_new _ _ _ _ _) (by simp [Value.oneCell']) (by unfold maxLen; omega) (by omega) (by simp; omega) ?_); intro v1 w1 own1 gr1 _; obtain ⟨g1, cap1, rfl⟩ := ownsRow_succ own1; have J2 := (I2.alloc (.cells #[.int .u64 0, .int .u64 (k : Nat), .int .u64 (fr : Nat)] 65)).kept gr1 (by simp [Value.ownBlock]); have hB1 := below_grown (hB.alloc hsz (.cells #[.int .u64 0, .int .u64 (k : Nat), .int .u64 (fr : Nat)] 65)) gr1 (by simp; omega) (by simp [Value.ownBlock]))
    clear c0 c1 c2 d0 d1 d2
    have d0 := J2.c0
    have d1 := J2.c1
    have d2 := J2.c2
    have hsz1 := hB1.size
    by_cases hy : 0 < done
    · have q5 : decide ((0 : Int) < (done : Nat)) = true := by simp; omega
      have hk := kept_tt (x := (0, k, fr)) (y := (k, done, to)) hx hy
      go_wp2_with (at_builtin; go_must (refine wpList_append_own _ rfl (.tmp 68) (.tmp 70) 29 rfl w.heap.size 65 i0 (.agg #[.int .u64 0, .int .u64 0, .int .u64 0]) 3 24 Try.underlying29 hi hz0 hz1 hz2 rfl (by decide) (.slice (some ⟨g1, 0, none⟩) (0 + 1) cap1) (0 + 1) _ rfl (own1.alloc _) ⟨w1.heap.size, 0, none⟩ 1 1 (sgL (k, done, to)) rfl rfl (three_new _ _ _ _ _) (by simp [Value.oneCell']) (by unfold maxLen; omega) (by omega) (by simp; omega) ?_); intro v2 w2 own2 gr2 _; obtain ⟨g2, cap2, rfl⟩ := ownsRow_succ own2; have hB2 := below_grown (hB1.alloc hsz1 (.cells #[.int .u64 (k : Nat), .int .u64 (done : Nat), .int .u64 (to : Nat)] 65)) gr2 (by simp; omega) (by simp [Value.ownBlock]; exact own_base own1))
      go_ret2
      exact ⟨_, rfl, by simpa [sgs] using own2, by simp, hB2⟩
    · have q5 : decide ((0 : Int) < (done : Nat)) = false := by simp; omega
      have hk := kept_tf (x := (0, k, fr)) (y := (k, done, to)) hx hy
      go_wp2
      go_ret2
      exact ⟨_, rfl, by simpa [sgs] using own1, by simp, hB1⟩
  · have q4 : decide ((0 : Int) < (k : Nat)) = false := by simp; omega
    by_cases hy : 0 < done
    · have q5 : decide ((0 : Int) < (done : Nat)) = true := by simp; omega
      have hk := kept_ft (x := (0, k, fr)) (y := (k, done, to)) hx hy
      go_wp2_with (at_builtin; go_must (refine wpList_append_own _ rfl (.tmp 68) (.tmp 70) 29 rfl w.heap.size 65 i0 (.agg #[.int .u64 0, .int .u64 0, .int .u64 0]) 3 24 Try.underlying29 hi hz0 hz1 hz2 rfl (by decide) (.slice none 0 0) 0 [] rfl (hrow0.alloc _) ⟨W.heap.size, 0, none⟩ 1 1 (sgL (k, done, to)) rfl rfl (three_new _ _ _ _ _) (by simp [Value.oneCell']) (by unfold maxLen; omega) (by omega) (by simp; omega) ?_); intro v2 w2 own2 gr2 _; obtain ⟨g2, cap2, rfl⟩ := ownsRow_succ own2; have hB2 := below_grown (hB.alloc hsz (.cells #[.int .u64 (k : Nat), .int .u64 (done : Nat), .int .u64 (to : Nat)] 65)) gr2 (by simp; omega) (by simp [Value.ownBlock]))
      go_ret2
      exact ⟨_, rfl, by simpa [sgs] using own2, by simp, hB2⟩
    · have q5 : decide ((0 : Int) < (done : Nat)) = false := by simp; omega
      have hk := kept_ff (x := (0, k, fr)) (y := (k, done, to)) hx hy
      go_wp2
      go_ret2
      exact ⟨_, rfl, hrow0, by simp, hB⟩
theorem rseg_good (n : Nat) (r : Rot) (hg : segGood n r) (w : World) : Calls Try.prog 30 #[.int .u64 (n : Nat), .agg (rotC r)] w (SegP w (kept [segX n r, segY n r]) 0) := by
  obtain ⟨h1, h2, h3, h4⟩ := hg
  have q1 : decide (((n : Nat) : Int) < 1) = false := by simp; omega
  have q2 : decide ((4294967296 : Int) < (n : Nat)) = false := by simp; omega
  have q3 : decide (n < r.done) = false := by simp; omega
  have hw : IntKind.u64.wrap ((n : Int) - (r.done : Nat)) = ((n - r.done : Nat) : Int) := by
    rw [IntKind.wrap_u64]
    omega
  obtain ⟨on, fr, to, back, mode, hot, done, ao, az, act, cnt, sum⟩ := r
  obtain rfl : on = true := h3
  cases back with
  | false => exact rseg_a n fr to mode hot done ao az act cnt sum _ w q1 q2 q3 hw
  | true => exact rseg_b n fr to mode hot done ao az act cnt sum _ w q1 q2 q3 hw
set_option maxRecDepth 100000 in
set_option maxHeartbeats 4000000 in
theorem rseg_ok (n : Nat) (r : Rot) (w : World) : Calls Try.prog 30 #[.int .u64 (n : Nat), .agg (rotC r)] w (SegP w (segL n r) (segE n r)) := by
  by_cases hg : segGood n r
  · have e1 : segL n r = kept [segX n r, segY n r] := by rw [segL, if_pos hg]
    have e2 : segE n r = 0 := by rw [segE, if_pos hg]
    rw [e1, e2]
    exact rseg_good n r hg w
  · have e1 : segL n r = [] := by rw [segL, if_neg hg]
    have e2 : segE n r = 2 := by rw [segE, if_neg hg]
    rw [e1, e2]
    obtain ⟨on, fr, to, back, mode, hot, done, ao, az, act, cnt, sum⟩ := r
    simp only [segGood] at hg
    by_cases h1 : n = 0
    · subst h1
      clear hg
      go_enter Try.func30, Try.ntmps30
      go_wp2
      go_ret2
      exact segP_bad w _
    · have q1 : decide (((n : Nat) : Int) < 1) = false := by simp; omega
      by_cases h2 : 4294967296 < n
      · have q2 : decide ((4294967296 : Int) < (n : Nat)) = true := by simp; omega
        clear hg
        go_enter Try.func30, Try.ntmps30
        go_wp2
        go_ret2
        exact segP_bad w _
      · have q2 : decide ((4294967296 : Int) < (n : Nat)) = false := by simp; omega
        cases on with
        | false =>
          clear hg
          go_enter Try.func30, Try.ntmps30
          go_wp2
          go_ret2
          exact segP_bad w _
        | true =>
          have h3 : n < done := by
            apply Classical.byContradiction
            intro hc
            exact hg ⟨by omega, by omega, rfl, by omega⟩
          have q3 : decide (n < done) = true := by simp; omega
          clear hg
          go_enter Try.func30, Try.ntmps30
          go_wp2
          go_ret2
          exact segP_bad w _
end Go.Proofs.Ytmfnhdflmnmooaa.Sx
