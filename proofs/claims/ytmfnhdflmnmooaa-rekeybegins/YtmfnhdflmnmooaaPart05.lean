import Derived.Test.YtmfnhdflmnmooaaPart02
import Derived.OwnWalk
import Derived.Deep.AppendLies
import Derived.Deep.DeepMust
import Derived.Test.YtmfnhdflmnmooaaNxl
import Derived.Test.YtmfnhdflmnmooaaPart01
namespace Go.Proofs.Ytmfnhdflmnmooaa.Sx
open Go.RowKit
set_option linter.unusedVariables false
set_option linter.unusedSimpArgs false
def segGood (n : Nat) (r : Rot) : Prop := 1 ≤ n ∧ n ≤ 4294967296 ∧ r.on = true ∧ r.done ≤ n
instance (n : Nat) (r : Rot) : Decidable (segGood n r) := by unfold segGood; infer_instance
def segE (n : Nat) (r : Rot) : Int := if segGood n r then 0 else 2
def segL (n : Nat) (r : Rot) : List Sg := if segGood n r then kept [segX n r, segY n r] else []
/-- An answer of Segments. -/
def SegP (w : World) (L : List Sg) (E : Int) (e : Ending) (w' : World) : Prop := ∃ v, e = .returned (.tuple #[v, .int .i64 E]) ∧ w'.ownsRow w.heap.size 65 3 v L.length (sgs L) ∧ (v = .slice none 0 0 ↔ L = []) ∧ Below w.heap.size w w'
theorem segP_bad (w : World) (o : Obj) : SegP w [] 2 (.returned (.tuple #[.slice none 0 0, .int .i64 2])) (w.alloc o) :=
  ⟨_, rfl, World.ownsRow_nil _ _ _ _, by simp, (Below.refl _ w).alloc (Nat.le_refl _) _⟩
theorem ownsRow_mono {w : World} {b b' : Nat} {e : TypeId} {s : Nat} {v : Value} {n : Nat} {xs : List Value} (h : w.ownsRow b e s v n xs) (hb : b' ≤ b) : w.ownsRow b' e s v n xs := by
  obtain ⟨h1, h2⟩ := h
  refine ⟨h1, ?_⟩
  rcases h2 with h2 | ⟨g, cap, cur, a, bb, c⟩
  · exact .inl h2
  · exact .inr ⟨g, cap, cur, a, Nat.le_trans hb bb, c⟩
end Go.Proofs.Ytmfnhdflmnmooaa.Sx
namespace Go.Proofs.Ytmfnhdflmnmooaa.Sx
open Go.RowKit
set_option linter.unusedVariables false
set_option linter.unusedSimpArgs false
theorem Item.alloc {W : World} {B : Nat} {x : Sg} (h : Item W B x) (o : Obj) : Item (W.alloc o) B x := h.kept (World.grownBy_alloc W o none) (by simp)
theorem kept_tt {x y : Sg} (h : 0 < x.2.1) (k : 0 < y.2.1) : kept [x, y] = [x, y] := by simp [kept, h, k]
theorem kept_tf {x y : Sg} (h : 0 < x.2.1) (k : ¬ 0 < y.2.1) : kept [x, y] = [x] := by simp [kept, h, k]
theorem kept_ft {x y : Sg} (h : ¬ 0 < x.2.1) (k : 0 < y.2.1) : kept [x, y] = [y] := by simp [kept, h, k]
theorem kept_ff {x y : Sg} (h : ¬ 0 < x.2.1) (k : ¬ 0 < y.2.1) : kept [x, y] = [] := by simp [kept, h, k]
theorem own_base {w : World} {b : Nat} {e : TypeId} {s g n c m : Nat} {xs : List Value} (h : w.ownsRow b e s (.slice (some ⟨g, 0, none⟩) m c) n xs) : b ≤ g := by
  rcases h.2 with ⟨h, _⟩ | ⟨g', cap, cur, a, bb, c⟩
  · cases h
  · cases a
    exact bb
theorem below_grown {n : Nat} {w u v : World} {b : Option Nat} (h : Below n w u) (g : u.grownBy v b) (hs : n ≤ u.heap.size) (hb : ∀ j, b = some j → n ≤ j) : Below n w v := h.grown g hs hb
set_option maxRecDepth 100000 in
set_option maxHeartbeats 4000000 in
theorem rseg_a (n fr to : Nat) (mode hot : Int) (done : Nat) (ao az : Int) (act : Bool) (cnt : Int) (sum : ByteArray) (k : Nat) (w : World)
    (q1 : decide (((n : Nat) : Int) < 1) = false) (q2 : decide ((4294967296 : Int) < (n : Nat)) = false) (q3 : decide (n < done) = false) (hw : IntKind.u64.wrap ((n : Int) - (done : Nat)) = (k : Int)) :
    Calls Try.prog 30 #[.int .u64 (n : Nat), .agg (rotC { on := true, fr := fr, to := to, back := false, mode := mode, hot := hot, done := done, ao := ao, az := az, act := act, cnt := cnt, sum := sum })] w (SegP w (kept [((0, done, to) : Sg), ((done, k, fr) : Sg)]) 0) := by
  obtain ⟨i0, hi, hz0, hz1, hz2⟩ := info_parts info53
  go_enter Try.func30, Try.ntmps30
  go_upto_region 9 with fail
  generalize hW : ((w.alloc (.cells (rotC { on := true, fr := fr, to := to, back := false, mode := mode, hot := hot, done := done, ao := ao, az := az, act := act, cnt := cnt, sum := sum }) 33)).alloc (.cells #[.int .u64 0, .int .u64 (done : Nat), .int .u64 (to : Nat)] 65)).alloc (.cells #[.int .u64 (done : Nat), .int .u64 (k : Nat), .int .u64 (fr : Nat)] 65) = W
  have I1 : Item W (w.heap.size + 1) (0, done, to) := by
    rw [← hW]
    have q := (Item.new (w.alloc (.cells (rotC { on := true, fr := fr, to := to, back := false, mode := mode, hot := hot, done := done, ao := ao, az := az, act := act, cnt := cnt, sum := sum }) 33)) (0, done, to)).alloc (.cells #[.int .u64 (done : Nat), .int .u64 (k : Nat), .int .u64 (fr : Nat)] 65)
    rw [World.size_alloc] at q
    exact q
  have I2 : Item W (w.heap.size + 1 + 1) (done, k, fr) := by
    rw [← hW]
    have q := Item.new ((w.alloc (.cells (rotC { on := true, fr := fr, to := to, back := false, mode := mode, hot := hot, done := done, ao := ao, az := az, act := act, cnt := cnt, sum := sum }) 33)).alloc (.cells #[.int .u64 0, .int .u64 (done : Nat), .int .u64 (to : Nat)] 65)) (done, k, fr)
    simp only [World.size_alloc] at q
    exact q
  have hB : Below w.heap.size w W := by
    rw [← hW]
    exact (((Below.refl _ w).alloc (Nat.le_refl _) _).alloc (by simp) _).alloc (by simp; omega) _
  clear hW
  have hsz := hB.size
  have hrow0 : W.ownsRow w.heap.size 65 3 (.slice none 0 0) 0 [] := World.ownsRow_nil _ _ _ _
  have c0 := I1.c0
  have c1 := I1.c1
  have c2 := I1.c2
  have d0 := I2.c0
  have d1 := I2.c1
  have d2 := I2.c2
  by_cases hx : 0 < done
  · have q4 : decide ((0 : Int) < (done : Nat)) = true := by simp; omega
    go_upto_region 11 with (at_builtin; go_must (refine wpList_append_own _ rfl (.tmp 61) (.tmp 63) 29 rfl w.heap.size 65 i0 (.agg #[.int .u64 0, .int .u64 0, .int .u64 0]) 3 24 Try.underlying29 hi hz0 hz1 hz2 rfl (by decide) (.slice none 0 0) 0 [] rfl (hrow0.alloc _) ⟨W.heap.size, 0, none⟩ 1 1 (sgL (0, done, to)) rfl rfl (three_new _ _ _ _ _) (by simp [Value.oneCell']) (by unfold maxLen; omega) (by omega) (by simp; omega) ?_); intro v1 w1 own1 gr1 _; obtain ⟨g1, cap1, rfl⟩ := ownsRow_succ own1; have J2 := (I2.alloc (.cells #[.int .u64 0, .int .u64 (done : Nat), .int .u64 (to : Nat)] 65)).kept gr1 (by simp [Value.ownBlock]); have hB1 := below_grown (hB.alloc hsz (.cells #[.int .u64 0, .int .u64 (done : Nat), .int .u64 (to : Nat)] 65)) gr1 (by simp; omega) (by simp [Value.ownBlock]))
    clear c0 c1 c2 d0 d1 d2
    have d0 := J2.c0
    have d1 := J2.c1
    have d2 := J2.c2
    have hsz1 := hB1.size
    by_cases hy : 0 < k
    · have q5 : decide ((0 : Int) < (k : Nat)) = true := by simp; omega
      have hk := kept_tt (x := (0, done, to)) (y := (done, k, fr)) hx hy
      go_wp2_with (at_builtin; go_must (refine wpList_append_own _ rfl (.tmp 68) (.tmp 70) 29 rfl w.heap.size 65 i0 (.agg #[.int .u64 0, .int .u64 0, .int .u64 0]) 3 24 Try.underlying29 hi hz0 hz1 hz2 rfl (by decide) (.slice (some ⟨g1, 0, none⟩) (0 + 1) cap1) (0 + 1) _ rfl (own1.alloc _) ⟨w1.heap.size, 0, none⟩ 1 1 (sgL (done, k, fr)) rfl rfl (three_new _ _ _ _ _) (by simp [Value.oneCell']) (by unfold maxLen; omega) (by omega) (by simp; omega) ?_); intro v2 w2 own2 gr2 _; obtain ⟨g2, cap2, rfl⟩ := ownsRow_succ own2; have hB2 := below_grown (hB1.alloc hsz1 (.cells #[.int .u64 (done : Nat), .int .u64 (k : Nat), .int .u64 (fr : Nat)] 65)) gr2 (by simp; omega) (by simp [Value.ownBlock]; exact own_base own1))
      go_ret2
      exact ⟨_, rfl, by simpa [sgs] using own2, by simp, hB2⟩
    · have q5 : decide ((0 : Int) < (k : Nat)) = false := by simp; omega
      have hk := kept_tf (x := (0, done, to)) (y := (done, k, fr)) hx hy
      go_wp2
      go_ret2
      exact ⟨_, rfl, by simpa [sgs] using own1, by simp, hB1⟩
  · have q4 : decide ((0 : Int) < (done : Nat)) = false := by simp; omega
    by_cases hy : 0 < k
    · have q5 : decide ((0 : Int) < (k : Nat)) = true := by simp; omega
      have hk := kept_ft (x := (0, done, to)) (y := (done, k, fr)) hx hy
      go_wp2_with (at_builtin; go_must (refine wpList_append_own _ rfl (.tmp 68) (.tmp 70) 29 rfl w.heap.size 65 i0 (.agg #[.int .u64 0, .int .u64 0, .int .u64 0]) 3 24 Try.underlying29 hi hz0 hz1 hz2 rfl (by decide) (.slice none 0 0) 0 [] rfl (hrow0.alloc _) ⟨W.heap.size, 0, none⟩ 1 1 (sgL (done, k, fr)) rfl rfl (three_new _ _ _ _ _) (by simp [Value.oneCell']) (by unfold maxLen; omega) (by omega) (by simp; omega) ?_); intro v2 w2 own2 gr2 _; obtain ⟨g2, cap2, rfl⟩ := ownsRow_succ own2; have hB2 := below_grown (hB.alloc hsz (.cells #[.int .u64 (done : Nat), .int .u64 (k : Nat), .int .u64 (fr : Nat)] 65)) gr2 (by simp; omega) (by simp [Value.ownBlock]))
      go_ret2
      exact ⟨_, rfl, by simpa [sgs] using own2, by simp, hB2⟩
    · have q5 : decide ((0 : Int) < (k : Nat)) = false := by simp; omega
      have hk := kept_ff (x := (0, done, to)) (y := (done, k, fr)) hx hy
      go_wp2
      go_ret2
      exact ⟨_, rfl, hrow0, by simp, hB⟩
set_option maxRecDepth 100000 in
set_option maxHeartbeats 4000000 in
theorem rseg_b (n fr to : Nat) (mode hot : Int) (done : Nat) (ao az : Int) (act : Bool) (cnt : Int) (sum : ByteArray) (k : Nat) (w : World)
    (q1 : decide (((n : Nat) : Int) < 1) = false) (q2 : decide ((4294967296 : Int) < (n : Nat)) = false) (q3 : decide (n < done) = false) (hw : IntKind.u64.wrap ((n : Int) - (done : Nat)) = (k : Int)) :
    Calls Try.prog 30 #[.int .u64 (n : Nat), .agg (rotC { on := true, fr := fr, to := to, back := true, mode := mode, hot := hot, done := done, ao := ao, az := az, act := act, cnt := cnt, sum := sum })] w (SegP w (kept [((0, k, fr) : Sg), ((k, done, to) : Sg)]) 0) := by
  obtain ⟨i0, hi, hz0, hz1, hz2⟩ := info_parts info53
  go_enter Try.func30, Try.ntmps30
  go_upto_region 9 with fail
  generalize hW : ((w.alloc (.cells (rotC { on := true, fr := fr, to := to, back := true, mode := mode, hot := hot, done := done, ao := ao, az := az, act := act, cnt := cnt, sum := sum }) 33)).alloc (.cells #[.int .u64 0, .int .u64 (k : Nat), .int .u64 (fr : Nat)] 65)).alloc (.cells #[.int .u64 (k : Nat), .int .u64 (done : Nat), .int .u64 (to : Nat)] 65) = W
  have I1 : Item W (w.heap.size + 1) (0, k, fr) := by
    rw [← hW]
    have q := (Item.new (w.alloc (.cells (rotC { on := true, fr := fr, to := to, back := true, mode := mode, hot := hot, done := done, ao := ao, az := az, act := act, cnt := cnt, sum := sum }) 33)) (0, k, fr)).alloc (.cells #[.int .u64 (k : Nat), .int .u64 (done : Nat), .int .u64 (to : Nat)] 65)
    rw [World.size_alloc] at q
    exact q
  have I2 : Item W (w.heap.size + 1 + 1) (k, done, to) := by
    rw [← hW]
    have q := Item.new ((w.alloc (.cells (rotC { on := true, fr := fr, to := to, back := true, mode := mode, hot := hot, done := done, ao := ao, az := az, act := act, cnt := cnt, sum := sum }) 33)).alloc (.cells #[.int .u64 0, .int .u64 (k : Nat), .int .u64 (fr : Nat)] 65)) (k, done, to)
    simp only [World.size_alloc] at q
    exact q
  have hB : Below w.heap.size w W := by
    rw [← hW]
    exact (((Below.refl _ w).alloc (Nat.le_refl _) _).alloc (by simp) _).alloc (by simp; omega) _
  clear hW
  have hsz := hB.size
  have hrow0 : W.ownsRow w.heap.size 65 3 (.slice none 0 0) 0 [] := World.ownsRow_nil _ _ _ _
  have c0 := I1.c0
  have c1 := I1.c1
  have c2 := I1.c2
  have d0 := I2.c0
  have d1 := I2.c1
  have d2 := I2.c2
  by_cases hx : 0 < k
  · have q4 : decide ((0 : Int) < (k : Nat)) = true := by simp; omega
    go_upto_region 11 with (at_builtin; go_must (refine wpList_append_own _ rfl (.tmp 61) (.tmp 63) 29 rfl w.heap.size 65 i0 (.agg #[.int .u64 0, .int .u64 0, .int .u64 0]) 3 24 Try.underlying29 hi hz0 hz1 hz2 rfl (by decide) (.slice none 0 0) 0 [] rfl (hrow0.alloc _) ⟨W.heap.size, 0, none⟩ 1 1 (sgL (0, k, fr)) rfl rfl (three_new _ _ _ _ _) (by simp [Value.oneCell']) (by unfold maxLen; omega) (by omega) (by simp; omega) ?_); intro v1 w1 own1 gr1 _; obtain ⟨g1, cap1, rfl⟩ := ownsRow_succ own1; have J2 := (I2.alloc (.cells #[.int .u64 0, .int .u64 (k : Nat), .int .u64 (fr : Nat)] 65)).kept gr1 (by simp [Value.ownBlock]); have hB1 := below_grown (hB.alloc hsz (.cells #[.int .u64 0, .int .u64 (k : Nat), .int .u64 (fr : Nat)] 65)) gr1 (by simp; omega) (by simp [Value.ownBlock]))
    clear c0 c1 c2 d0 d1 d2
    have d0 := J2.c0
    have d1 := J2.c1
    have d2 := J2.c2
    have hsz1 := hB1.size
    by_cases hy : 0 < done
    · have q5 : decide ((0 : Int) < (done : Nat)) = true := by simp; omega
      have hk := kept_tt (x := (0, k, fr)) (y := (k, done, to)) hx hy
      go_wp2_with (at_builtin; go_must (refine wpList_append_own _ rfl (.tmp 68) (.tmp 70) 29 rfl w.heap.size 65 i0 (.agg #[.int .u64 0, .int .u64 0, .int .u64 0]) 3 24 Try.underlying29 hi hz0 hz1 hz2 rfl (by decide) (.slice (some ⟨g1, 0, none⟩) (0 + 1) cap1) (0 + 1) _ rfl (own1.alloc _) ⟨w1.heap.size, 0, none⟩ 1 1 (sgL (k, done, to)) rfl rfl (three_new _ _ _ _ _) (by simp [Value.oneCell']) (by unfold maxLen; omega) (by omega) (by simp; omega) ?_); intro v2 w2 own2 gr2 _; obtain ⟨g2, cap2, rfl⟩ := ownsRow_succ own2; have hB2 := below_grown (hB1.alloc hsz1 (.cells #[.int .u64 (k : Nat), .int .u64 (done : Nat), .int .u64 (to : Nat)] 65)) gr2 (by simp; omega) (by simp [Value.ownBlock]; exact own_base own1))
      go_ret2
      exact ⟨_, rfl, by simpa [sgs] using own2, by simp, hB2⟩
    · have q5 : decide ((0 : Int) < (done : Nat)) = false := by simp; omega
      have hk := kept_tf (x := (0, k, fr)) (y := (k, done, to)) hx hy
      go_wp2
      go_ret2
      exact ⟨_, rfl, by simpa [sgs] using own1, by simp, hB1⟩
  · have q4 : decide ((0 : Int) < (k : Nat)) = false := by simp; omega
    by_cases hy : 0 < done
    · have q5 : decide ((0 : Int) < (done : Nat)) = true := by simp; omega
      have hk := kept_ft (x := (0, k, fr)) (y := (k, done, to)) hx hy
      go_wp2_with (at_builtin; go_must (refine wpList_append_own _ rfl (.tmp 68) (.tmp 70) 29 rfl w.heap.size 65 i0 (.agg #[.int .u64 0, .int .u64 0, .int .u64 0]) 3 24 Try.underlying29 hi hz0 hz1 hz2 rfl (by decide) (.slice none 0 0) 0 [] rfl (hrow0.alloc _) ⟨W.heap.size, 0, none⟩ 1 1 (sgL (k, done, to)) rfl rfl (three_new _ _ _ _ _) (by simp [Value.oneCell']) (by unfold maxLen; omega) (by omega) (by simp; omega) ?_); intro v2 w2 own2 gr2 _; obtain ⟨g2, cap2, rfl⟩ := ownsRow_succ own2; have hB2 := below_grown (hB.alloc hsz (.cells #[.int .u64 (k : Nat), .int .u64 (done : Nat), .int .u64 (to : Nat)] 65)) gr2 (by simp; omega) (by simp [Value.ownBlock]))
      go_ret2
      exact ⟨_, rfl, by simpa [sgs] using own2, by simp, hB2⟩
    · have q5 : decide ((0 : Int) < (done : Nat)) = false := by simp; omega
      have hk := kept_ff (x := (0, k, fr)) (y := (k, done, to)) hx hy
      go_wp2
      go_ret2
      exact ⟨_, rfl, hrow0, by simp, hB⟩
theorem rseg_good (n : Nat) (r : Rot) (hg : segGood n r) (w : World) : Calls Try.prog 30 #[.int .u64 (n : Nat), .agg (rotC r)] w (SegP w (kept [segX n r, segY n r]) 0) := by
  obtain ⟨h1, h2, h3, h4⟩ := hg
  have q1 : decide (((n : Nat) : Int) < 1) = false := by simp; omega
  have q2 : decide ((4294967296 : Int) < (n : Nat)) = false := by simp; omega
  have q3 : decide (n < r.done) = false := by simp; omega
  have hw : IntKind.u64.wrap ((n : Int) - (r.done : Nat)) = ((n - r.done : Nat) : Int) := by
    rw [IntKind.wrap_u64]
    omega
  obtain ⟨on, fr, to, back, mode, hot, done, ao, az, act, cnt, sum⟩ := r
  obtain rfl : on = true := h3
  cases back with
  | false => exact rseg_a n fr to mode hot done ao az act cnt sum _ w q1 q2 q3 hw
  | true => exact rseg_b n fr to mode hot done ao az act cnt sum _ w q1 q2 q3 hw
set_option maxRecDepth 100000 in
set_option maxHeartbeats 4000000 in
theorem rseg_ok (n : Nat) (r : Rot) (w : World) : Calls Try.prog 30 #[.int .u64 (n : Nat), .agg (rotC r)] w (SegP w (segL n r) (segE n r)) := by
  by_cases hg : segGood n r
  · have e1 : segL n r = kept [segX n r, segY n r] := by rw [segL, if_pos hg]
    have e2 : segE n r = 0 := by rw [segE, if_pos hg]
    rw [e1, e2]
    exact rseg_good n r hg w
  · have e1 : segL n r = [] := by rw [segL, if_neg hg]
    have e2 : segE n r = 2 := by rw [segE, if_neg hg]
    rw [e1, e2]
    obtain ⟨on, fr, to, back, mode, hot, done, ao, az, act, cnt, sum⟩ := r
    simp only [segGood] at hg
    by_cases h1 : n = 0
    · subst h1
      clear hg
      go_enter Try.func30, Try.ntmps30
      go_wp2
      go_ret2
      exact segP_bad w _
    · have q1 : decide (((n : Nat) : Int) < 1) = false := by simp; omega
      by_cases h2 : 4294967296 < n
      · have q2 : decide ((4294967296 : Int) < (n : Nat)) = true := by simp; omega
        clear hg
        go_enter Try.func30, Try.ntmps30
        go_wp2
        go_ret2
        exact segP_bad w _
      · have q2 : decide ((4294967296 : Int) < (n : Nat)) = false := by simp; omega
        cases on with
        | false =>
          clear hg
          go_enter Try.func30, Try.ntmps30
          go_wp2
          go_ret2
          exact segP_bad w _
        | true =>
          have h3 : n < done := by
            apply Classical.byContradiction
            intro hc
            exact hg ⟨by omega, by omega, rfl, by omega⟩
          have q3 : decide (n < done) = true := by simp; omega
          clear hg
          go_enter Try.func30, Try.ntmps30
          go_wp2
          go_ret2
          exact segP_bad w _
end Go.Proofs.Ytmfnhdflmnmooaa.Sx
namespace Go.Proofs.Ytmfnhdflmnmooaa
open Go.RowKit
set_option linter.unusedVariables false
set_option linter.unusedSimpArgs false
theorem wpList_load_want {P : Program} {ops : Array Oper} {rest : List Oper} {op : Oper} {a : Act} {w : World} {Q : Exit → Act → World → Prop} (hw : Region.wanted op (yielded ops a.tmps) = true) (ty : TypeId) (x : Operand) (ho : op.op = .load ty x)
    (b o : Nat) (hx : a.eval x = .pointer (some ⟨b, o, none⟩)) (cs : List Value) (d : TypeDesc) (hc : w.rangeAt b o cs) (hu : P.underlying ty = some d) (hd : d.isRow = true) (hi : (P.info? ty).map (·.size) = some cs.length)
    (h : wpList P ops Q rest (a.put op.dst (.agg cs.toArray)) w) : wpList P ops Q (op :: rest) a w :=
  wpList_step fun K hK => by
    rw [if_pos hw]
    exact wp_load_mid ty x ho b o hx cs d hc hu hd hi (hK _ _ h)
set_option maxHeartbeats 4000000 in
set_option maxRecDepth 100000 in
theorem rwork_0 (m : Mt) (hC : 0 ≤ m.C) (w : World) (hC9 : m.C ≤ 18446744073709551615) (hm : mayB m.U m.C m.H m.K = false) : Calls Try.prog 39 #[.agg (mtC m)] w fun e w' => e = .returned (.bool false) ∧ Below w.heap.size w w' := by
  have HM : Hid (∀ u, Calls Try.prog 26 #[.agg #[.int .i64 m.U, .int .u64 m.C, .int .i64 m.H, .int .i64 m.K]] u fun e w' => Hid (e = .returned (.bool false) ∧ Below u.heap.size u w')) := fun u => by
    have q := shaped_ok m.U m.C m.H m.K hC hC9 u
    rw [hm] at q
    exact q
  have bx : Bx (w.alloc (.cells (mtC m) 36)) w.heap.size m := World.alloc_heap_new w _
  have y4 := bx.c 4 (.int .i64 m.U) rfl
  have y5 := bx.c 5 (.int .u64 m.C) rfl
  have y6 := bx.c 6 (.int .i64 m.H) rfl
  have y7 := bx.c 7 (.int .i64 m.K) rfl
  have y14 := bx.c 14 (.bool m.on) rfl
  have y15 := bx.c 15 (.int .u64 (m.fr : Nat)) rfl
  have y16 := bx.c 16 (.int .u64 (m.to : Nat)) rfl
  have y17 := bx.c 17 (.bool m.back) rfl
  have y18 := bx.c 18 (.int .i64 m.mode) rfl
  have y19 := bx.c 19 (.int .u64 m.hot) rfl
  have y20 := bx.c 20 (.int .u64 (m.done : Nat)) rfl
  have y21 := bx.c 21 (.int .i64 m.ao) rfl
  have y22 := bx.c 22 (.int .i64 m.az) rfl
  have y23 := bx.c 23 (.bool m.act) rfl
  have y24 := bx.c 24 (.int .u64 m.cnt) rfl
  have y25 := bx.c 25 (.string m.sum) rfl
  clear bx
  have HW : Hid (Wk ((w.alloc (.cells (mtC m) 36)).alloc (.cells (roM m) 33)) w.heap.size m ∧ Below w.heap.size w ((w.alloc (.cells (mtC m) 36)).alloc (.cells (roM m) 33))) := ⟨Wk.new w m, AAt.nb _ _ _⟩
  go_enter Try.func39, Try.ntmps39
  go_upto_region 2 with fail
  generalize ((w.alloc (.cells (mtC m) 36)).alloc (.cells (roM m) 33)) = w0 at HW ⊢
  clear y4 y5 y6 y7 y14 y15 y16 y17 y18 y19 y20 y21 y22 y23 y24 y25
  have y4 := HW.out.1.c 4 (.int .i64 m.U) rfl
  have y5 := HW.out.1.c 5 (.int .u64 m.C) rfl
  have y6 := HW.out.1.c 6 (.int .i64 m.H) rfl
  have y7 := HW.out.1.c 7 (.int .i64 m.K) rfl
  go_wp2_with (go_at_call 26; refine (HM.out _).mono ?_; intro e5 w5 hh5; obtain ⟨he5, hb5⟩ := hh5.out; subst he5)
  go_ret
  exact ⟨rfl, HW.out.2.trans (hb5.mono HW.out.2.size)⟩
set_option maxHeartbeats 4000000 in
set_option maxRecDepth 100000 in
theorem rwork_1 (m : Mt) (hC : 0 ≤ m.C) (w : World) (hC9 : m.C ≤ 18446744073709551615) (hot : Nat) (hh : m.hot = (hot : Int)) (hz : m.az ≤ 9223372036854775807) (hm : mayB m.U m.C m.H m.K = true) (ha : areaB m.U m.H m.K m.ao m.az m.mode hot = false) : Calls Try.prog 39 #[.agg (mtC m)] w fun e w' => e = .returned (.bool false) ∧ Below w.heap.size w w' := by
  have HM : Hid (∀ u, Calls Try.prog 26 #[.agg #[.int .i64 m.U, .int .u64 m.C, .int .i64 m.H, .int .i64 m.K]] u fun e w' => Hid (e = .returned (.bool true) ∧ Below u.heap.size u w')) := fun u => by
    have q := shaped_ok m.U m.C m.H m.K hC hC9 u
    rw [hm] at q
    exact q
  obtain ⟨qu, qh, k4, k2, _, qc, qlt⟩ := mayB_all hm
  have hr := headB_range qh
  have h1 : 0 ≤ m.H := by omega
  have h2 : m.H ≤ 4194304 := hr.2
  have k1 : 0 ≤ m.K := by omega
  have HAr : Hid (∀ u, Calls Try.prog 27 #[.agg #[.int .i64 m.U, .int .u64 m.C, .int .i64 m.H, .int .i64 m.K], .agg #[.int .i64 m.ao, .int .i64 m.az], .int .i64 m.mode, .int .u64 m.hot] u fun e w' => Hid (e = .returned (.bool false) ∧ Below u.heap.size u w')) := fun u => by
    have q := rarea_ok m.U m.C m.H m.K m.ao m.az m.mode hot u h1 h2 k1 k2 hz
    rw [ha] at q
    rw [hh]
    exact q
  clear hm ha qu qh qc qlt hr hh
  have bx : Bx (w.alloc (.cells (mtC m) 36)) w.heap.size m := World.alloc_heap_new w _
  have y4 := bx.c 4 (.int .i64 m.U) rfl
  have y5 := bx.c 5 (.int .u64 m.C) rfl
  have y6 := bx.c 6 (.int .i64 m.H) rfl
  have y7 := bx.c 7 (.int .i64 m.K) rfl
  have y14 := bx.c 14 (.bool m.on) rfl
  have y15 := bx.c 15 (.int .u64 (m.fr : Nat)) rfl
  have y16 := bx.c 16 (.int .u64 (m.to : Nat)) rfl
  have y17 := bx.c 17 (.bool m.back) rfl
  have y18 := bx.c 18 (.int .i64 m.mode) rfl
  have y19 := bx.c 19 (.int .u64 m.hot) rfl
  have y20 := bx.c 20 (.int .u64 (m.done : Nat)) rfl
  have y21 := bx.c 21 (.int .i64 m.ao) rfl
  have y22 := bx.c 22 (.int .i64 m.az) rfl
  have y23 := bx.c 23 (.bool m.act) rfl
  have y24 := bx.c 24 (.int .u64 m.cnt) rfl
  have y25 := bx.c 25 (.string m.sum) rfl
  clear bx
  have HW : Hid (Wk ((w.alloc (.cells (mtC m) 36)).alloc (.cells (roM m) 33)) w.heap.size m ∧ Below w.heap.size w ((w.alloc (.cells (mtC m) 36)).alloc (.cells (roM m) 33))) := ⟨Wk.new w m, AAt.nb _ _ _⟩
  go_enter Try.func39, Try.ntmps39
  go_upto_region 2 with fail
  generalize ((w.alloc (.cells (mtC m) 36)).alloc (.cells (roM m) 33)) = w0 at HW ⊢
  clear y4 y5 y6 y7 y14 y15 y16 y17 y18 y19 y20 y21 y22 y23 y24 y25
  have y4 := HW.out.1.c 4 (.int .i64 m.U) rfl
  have y5 := HW.out.1.c 5 (.int .u64 m.C) rfl
  have y6 := HW.out.1.c 6 (.int .i64 m.H) rfl
  have y7 := HW.out.1.c 7 (.int .i64 m.K) rfl
  go_wp2_with (first | (go_at_call 26; refine (HM.out _).mono ?_; intro e5 w5 hh5; obtain ⟨he5, hb5⟩ := hh5.out; subst he5; have HW5 := HW.out.1.below hb5; have y4 := HW5.c 4 (.int .i64 m.U) rfl; have y5 := HW5.c 5 (.int .u64 m.C) rfl; have y6 := HW5.c 6 (.int .i64 m.H) rfl; have y7 := HW5.c 7 (.int .i64 m.K) rfl; have r4 := HW5.r 4 (.int .i64 m.mode) rfl; have r5 := HW5.r 5 (.int .u64 m.hot) rfl; have r7 := HW5.r 7 (.int .i64 m.ao) rfl; have r8 := HW5.r 8 (.int .i64 m.az) rfl; have r1 := HW5.r 1 (.int .u64 (m.fr : Nat)) rfl; have r2 := HW5.r 2 (.int .u64 (m.to : Nat)) rfl) | (go_at_call 27; refine (HAr.out _).mono ?_; intro e6 w6 hh6; obtain ⟨he6, hb6⟩ := hh6.out; subst he6; have HW6 := HW5.below hb6))
  all_goals
    go_ret
    exact ⟨rfl, (HW.out.2.trans (hb5.mono HW.out.2.size)).trans (hb6.mono (Nat.le_trans HW.out.2.size hb5.size))⟩
set_option maxHeartbeats 8000000 in
set_option maxRecDepth 100000 in
theorem rwork_2 (m : Mt) (hC : 0 ≤ m.C) (w : World) (hC9 : m.C ≤ 18446744073709551615) (hon : Hid (m.on = true)) (hot N : Nat) (EL : List Epo) (f : Nat → Int × Int × Int) (hh : m.hot = (hot : Int)) (hz : m.az ≤ 9223372036854775807) (hN : m.C - (2 * m.H + m.K) / m.U = (N : Nat)) (hN1 : 1 ≤ N) (hN2 : N ≤ 4294967296) (hsz : m.sum.size ≤ 9223372036854775807) (hgn : m.gn ≤ 1000000000000000) (hen : Hid (EL.length = m.en)) (hn0 : m.en ≤ 1000000000000000) (e1 : Hid (RV epoL 5 w m.ep EL)) (hSg : Hid (SegV w (.slice m.gp m.gn m.gc) m.gn f))
    (hm : mayB m.U m.C m.H m.K = true) (ha : areaB m.U m.H m.K m.ao m.az m.mode hot = true) (hft : ¬ (m.fr < m.to)) : Calls Try.prog 39 #[.agg (mtC m)] w fun e w' => e = .returned (.bool false) ∧ Below w.heap.size w w' := by
  have HM : Hid (∀ u, Calls Try.prog 26 #[.agg #[.int .i64 m.U, .int .u64 m.C, .int .i64 m.H, .int .i64 m.K]] u fun e w' => Hid (e = .returned (.bool true) ∧ Below u.heap.size u w')) := fun u => by
    have q := shaped_ok m.U m.C m.H m.K hC hC9 u
    rw [hm] at q
    exact q
  obtain ⟨qu, qh, k4, k2, _, qc, qlt⟩ := mayB_all hm
  have hr := headB_range qh
  have h1 : 0 ≤ m.H := by omega
  have h2 : m.H ≤ 4194304 := hr.2
  have k1 : 0 ≤ m.K := by omega
  have HAr : Hid (∀ u, Calls Try.prog 27 #[.agg #[.int .i64 m.U, .int .u64 m.C, .int .i64 m.H, .int .i64 m.K], .agg #[.int .i64 m.ao, .int .i64 m.az], .int .i64 m.mode, .int .u64 m.hot] u fun e w' => Hid (e = .returned (.bool true) ∧ Below u.heap.size u w')) := fun u => by
    have q := rarea_ok m.U m.C m.H m.K m.ao m.az m.mode hot u h1 h2 k1 k2 hz
    rw [ha] at q
    rw [hh]
    exact q
  have gt : decide ((m.to : Int) ≤ (m.fr : Int)) = true := by simp; omega
  have gtn : decide (m.to ≤ m.fr) = true := by simp; omega
  clear hm ha qu qh qc qlt hr hh k4 hN
  have bx : Bx (w.alloc (.cells (mtC m) 36)) w.heap.size m := World.alloc_heap_new w _
  have y4 := bx.c 4 (.int .i64 m.U) rfl
  have y5 := bx.c 5 (.int .u64 m.C) rfl
  have y6 := bx.c 6 (.int .i64 m.H) rfl
  have y7 := bx.c 7 (.int .i64 m.K) rfl
  have y14 := bx.c 14 (.bool m.on) rfl
  have y15 := bx.c 15 (.int .u64 (m.fr : Nat)) rfl
  have y16 := bx.c 16 (.int .u64 (m.to : Nat)) rfl
  have y17 := bx.c 17 (.bool m.back) rfl
  have y18 := bx.c 18 (.int .i64 m.mode) rfl
  have y19 := bx.c 19 (.int .u64 m.hot) rfl
  have y20 := bx.c 20 (.int .u64 (m.done : Nat)) rfl
  have y21 := bx.c 21 (.int .i64 m.ao) rfl
  have y22 := bx.c 22 (.int .i64 m.az) rfl
  have y23 := bx.c 23 (.bool m.act) rfl
  have y24 := bx.c 24 (.int .u64 m.cnt) rfl
  have y25 := bx.c 25 (.string m.sum) rfl
  clear bx
  have HW : Hid (Wk ((w.alloc (.cells (mtC m) 36)).alloc (.cells (roM m) 33)) w.heap.size m ∧ Below w.heap.size w ((w.alloc (.cells (mtC m) 36)).alloc (.cells (roM m) 33))) := ⟨Wk.new w m, AAt.nb _ _ _⟩
  go_enter Try.func39, Try.ntmps39
  go_upto_region 2 with fail
  generalize ((w.alloc (.cells (mtC m) 36)).alloc (.cells (roM m) 33)) = wz at HW ⊢
  clear y4 y5 y6 y7 y14 y15 y16 y17 y18 y19 y20 y21 y22 y23 y24 y25
  have y4 := HW.out.1.c 4 (.int .i64 m.U) rfl
  have y5 := HW.out.1.c 5 (.int .u64 m.C) rfl
  have y6 := HW.out.1.c 6 (.int .i64 m.H) rfl
  have y7 := HW.out.1.c 7 (.int .i64 m.K) rfl
  go_wp2_with (first | (go_at_call 26; refine (HM.out _).mono ?_; intro e5 w5 hh5; obtain ⟨he5, hb5⟩ := hh5.out; subst he5; have HW5 := HW.out.1.below hb5; have y4 := HW5.c 4 (.int .i64 m.U) rfl; have y5 := HW5.c 5 (.int .u64 m.C) rfl; have y6 := HW5.c 6 (.int .i64 m.H) rfl; have y7 := HW5.c 7 (.int .i64 m.K) rfl; have r4 := HW5.r 4 (.int .i64 m.mode) rfl; have r5 := HW5.r 5 (.int .u64 m.hot) rfl; have r7 := HW5.r 7 (.int .i64 m.ao) rfl; have r8 := HW5.r 8 (.int .i64 m.az) rfl; have r1 := HW5.r 1 (.int .u64 (m.fr : Nat)) rfl; have r2 := HW5.r 2 (.int .u64 (m.to : Nat)) rfl) | (go_at_call 27; refine (HAr.out _).mono ?_; intro e6 w6 hh6; obtain ⟨he6, hb6⟩ := hh6.out; subst he6; have HW6 := HW5.below hb6; clear y4 y5 y6 y7 r1 r2; have HB6 : Hid (Below w.heap.size w w6) := (HW.out.2.trans (hb5.mono HW.out.2.size)).trans (hb6.mono (Nat.le_trans HW.out.2.size hb5.size)); have r1 := HW6.r 1 (.int .u64 (m.fr : Nat)) rfl; have r2 := HW6.r 2 (.int .u64 (m.to : Nat)) rfl; have y4 := HW6.c 4 (.int .i64 m.U) rfl; have y5 := HW6.c 5 (.int .u64 m.C) rfl; have y6 := HW6.c 6 (.int .i64 m.H) rfl; have y7 := HW6.c 7 (.int .i64 m.K) rfl))
  all_goals
    go_ret
    exact ⟨rfl, HB6.out⟩
set_option maxHeartbeats 8000000 in
set_option maxRecDepth 100000 in
theorem rwork_3 (m : Mt) (hC : 0 ≤ m.C) (w : World) (hC9 : m.C ≤ 18446744073709551615) (hon : Hid (m.on = true)) (hot N : Nat) (EL : List Epo) (f : Nat → Int × Int × Int) (hh : m.hot = (hot : Int)) (hz : m.az ≤ 9223372036854775807) (hN : m.C - (2 * m.H + m.K) / m.U = (N : Nat)) (hN1 : 1 ≤ N) (hN2 : N ≤ 4294967296) (hsz : m.sum.size ≤ 9223372036854775807) (hgn : m.gn ≤ 1000000000000000) (hen : Hid (EL.length = m.en)) (hn0 : m.en ≤ 1000000000000000) (e1 : Hid (RV epoL 5 w m.ep EL)) (hSg : Hid (SegV w (.slice m.gp m.gn m.gc) m.gn f))
    (hm : mayB m.U m.C m.H m.K = true) (ha : areaB m.U m.H m.K m.ao m.az m.mode hot = true) (hft : m.fr < m.to) (hef : ¬ (epN EL m.fr m.en = 1)) : Calls Try.prog 39 #[.agg (mtC m)] w fun e w' => e = .returned (.bool false) ∧ Below w.heap.size w w' := by
  have HM : Hid (∀ u, Calls Try.prog 26 #[.agg #[.int .i64 m.U, .int .u64 m.C, .int .i64 m.H, .int .i64 m.K]] u fun e w' => Hid (e = .returned (.bool true) ∧ Below u.heap.size u w')) := fun u => by
    have q := shaped_ok m.U m.C m.H m.K hC hC9 u
    rw [hm] at q
    exact q
  obtain ⟨qu, qh, k4, k2, _, qc, qlt⟩ := mayB_all hm
  have hr := headB_range qh
  have h1 : 0 ≤ m.H := by omega
  have h2 : m.H ≤ 4194304 := hr.2
  have k1 : 0 ≤ m.K := by omega
  have HAr : Hid (∀ u, Calls Try.prog 27 #[.agg #[.int .i64 m.U, .int .u64 m.C, .int .i64 m.H, .int .i64 m.K], .agg #[.int .i64 m.ao, .int .i64 m.az], .int .i64 m.mode, .int .u64 m.hot] u fun e w' => Hid (e = .returned (.bool true) ∧ Below u.heap.size u w')) := fun u => by
    have q := rarea_ok m.U m.C m.H m.K m.ao m.az m.mode hot u h1 h2 k1 k2 hz
    rw [ha] at q
    rw [hh]
    exact q
  have gt : decide ((m.to : Int) ≤ (m.fr : Int)) = false := by simp; omega
  have gtn : decide (m.to ≤ m.fr) = false := by simp; omega
  obtain ⟨x1, hx1⟩ : ∃ x1, Hid (x1 = epN EL m.fr m.en) := ⟨_, rfl⟩
  have g1 : ((x1 : Nat) : Int) ≠ 1 := by rw [hx1.out]; intro h; exact hef (by omega)
  have HEf : Hid (∀ u, Below w.heap.size w u → Calls Try.prog 29 #[.agg (mtC m), .int .u64 (m.fr : Nat)] u fun e w' => Hid (e = .returned (.int .i64 (x1 : Nat)) ∧ Below u.heap.size u w')) := fun u hu => by
    rw [hx1.out]
    exact epochs_ok m EL m.fr hen hn0 u (e1.out.below hu)
  have g2 : (((x1 : Nat) : Int) == 1) = false := by simpa using g1
  have g3 : (((x1 : Nat) : Int) != 1) = true := by simpa using g1
  clear hm ha qu qh qc qlt hr hh k4 hN
  clear g1 hef
  have bx : Bx (w.alloc (.cells (mtC m) 36)) w.heap.size m := World.alloc_heap_new w _
  have y4 := bx.c 4 (.int .i64 m.U) rfl
  have y5 := bx.c 5 (.int .u64 m.C) rfl
  have y6 := bx.c 6 (.int .i64 m.H) rfl
  have y7 := bx.c 7 (.int .i64 m.K) rfl
  have y14 := bx.c 14 (.bool m.on) rfl
  have y15 := bx.c 15 (.int .u64 (m.fr : Nat)) rfl
  have y16 := bx.c 16 (.int .u64 (m.to : Nat)) rfl
  have y17 := bx.c 17 (.bool m.back) rfl
  have y18 := bx.c 18 (.int .i64 m.mode) rfl
  have y19 := bx.c 19 (.int .u64 m.hot) rfl
  have y20 := bx.c 20 (.int .u64 (m.done : Nat)) rfl
  have y21 := bx.c 21 (.int .i64 m.ao) rfl
  have y22 := bx.c 22 (.int .i64 m.az) rfl
  have y23 := bx.c 23 (.bool m.act) rfl
  have y24 := bx.c 24 (.int .u64 m.cnt) rfl
  have y25 := bx.c 25 (.string m.sum) rfl
  clear bx
  have HW : Hid (Wk ((w.alloc (.cells (mtC m) 36)).alloc (.cells (roM m) 33)) w.heap.size m ∧ Below w.heap.size w ((w.alloc (.cells (mtC m) 36)).alloc (.cells (roM m) 33))) := ⟨Wk.new w m, AAt.nb _ _ _⟩
  go_enter Try.func39, Try.ntmps39
  go_upto_region 2 with fail
  generalize ((w.alloc (.cells (mtC m) 36)).alloc (.cells (roM m) 33)) = wz at HW ⊢
  clear y4 y5 y6 y7 y14 y15 y16 y17 y18 y19 y20 y21 y22 y23 y24 y25
  have y4 := HW.out.1.c 4 (.int .i64 m.U) rfl
  have y5 := HW.out.1.c 5 (.int .u64 m.C) rfl
  have y6 := HW.out.1.c 6 (.int .i64 m.H) rfl
  have y7 := HW.out.1.c 7 (.int .i64 m.K) rfl
  go_wp2_with (first | (go_at_call 26; refine (HM.out _).mono ?_; intro e5 w5 hh5; obtain ⟨he5, hb5⟩ := hh5.out; subst he5; have HW5 := HW.out.1.below hb5; have y4 := HW5.c 4 (.int .i64 m.U) rfl; have y5 := HW5.c 5 (.int .u64 m.C) rfl; have y6 := HW5.c 6 (.int .i64 m.H) rfl; have y7 := HW5.c 7 (.int .i64 m.K) rfl; have r4 := HW5.r 4 (.int .i64 m.mode) rfl; have r5 := HW5.r 5 (.int .u64 m.hot) rfl; have r7 := HW5.r 7 (.int .i64 m.ao) rfl; have r8 := HW5.r 8 (.int .i64 m.az) rfl; have r1 := HW5.r 1 (.int .u64 (m.fr : Nat)) rfl; have r2 := HW5.r 2 (.int .u64 (m.to : Nat)) rfl) | (go_at_call 27; refine (HAr.out _).mono ?_; intro e6 w6 hh6; obtain ⟨he6, hb6⟩ := hh6.out; subst he6; have HW6 := HW5.below hb6; clear y4 y5 y6 y7 r1 r2; have HB6 : Hid (Below w.heap.size w w6) := (HW.out.2.trans (hb5.mono HW.out.2.size)).trans (hb6.mono (Nat.le_trans HW.out.2.size hb5.size)); have r1 := HW6.r 1 (.int .u64 (m.fr : Nat)) rfl; have r2 := HW6.r 2 (.int .u64 (m.to : Nat)) rfl; have y4 := HW6.c 4 (.int .i64 m.U) rfl; have y5 := HW6.c 5 (.int .u64 m.C) rfl; have y6 := HW6.c 6 (.int .i64 m.H) rfl; have y7 := HW6.c 7 (.int .i64 m.K) rfl) | (go_at_call 29; refine (HEf.out _ HB6.out).mono ?_; intro e8 w8 hh8; obtain ⟨he8, hb8⟩ := hh8.out; subst he8; clear HEf; have HW8 := HW6.below hb8; have HB8 : Hid (Below w.heap.size w w8) := HB6.out.trans (hb8.mono HB6.out.size); have s1 := HW8.r 1 (.int .u64 (m.fr : Nat)) rfl; have s2 := HW8.r 2 (.int .u64 (m.to : Nat)) rfl; have y4 := HW8.c 4 (.int .i64 m.U) rfl; have y5 := HW8.c 5 (.int .u64 m.C) rfl; have y6 := HW8.c 6 (.int .i64 m.H) rfl; have y7 := HW8.c 7 (.int .i64 m.K) rfl) | (refine wpList_load_want (by rfl) 36 (.tmp 1) (by rfl) w.heap.size 0 (by rfl) (mtC m).toList _ HW6.all Try.underlying36 rfl (size36 m) ?_))
  all_goals
    go_ret
    exact ⟨rfl, HB8.out⟩
set_option maxHeartbeats 8000000 in
set_option maxRecDepth 100000 in
theorem rwork_4 (m : Mt) (hC : 0 ≤ m.C) (w : World) (hC9 : m.C ≤ 18446744073709551615) (hon : Hid (m.on = true)) (hot N : Nat) (EL : List Epo) (f : Nat → Int × Int × Int) (hh : m.hot = (hot : Int)) (hz : m.az ≤ 9223372036854775807) (hN : m.C - (2 * m.H + m.K) / m.U = (N : Nat)) (hN1 : 1 ≤ N) (hN2 : N ≤ 4294967296) (hsz : m.sum.size ≤ 9223372036854775807) (hgn : m.gn ≤ 1000000000000000) (hen : Hid (EL.length = m.en)) (hn0 : m.en ≤ 1000000000000000) (e1 : Hid (RV epoL 5 w m.ep EL)) (hSg : Hid (SegV w (.slice m.gp m.gn m.gc) m.gn f))
    (hm : mayB m.U m.C m.H m.K = true) (ha : areaB m.U m.H m.K m.ao m.az m.mode hot = true) (hft : m.fr < m.to) (hef : epN EL m.fr m.en = 1) (het : ¬ (epN EL m.to m.en = 1)) : Calls Try.prog 39 #[.agg (mtC m)] w fun e w' => e = .returned (.bool false) ∧ Below w.heap.size w w' := by
  have HM : Hid (∀ u, Calls Try.prog 26 #[.agg #[.int .i64 m.U, .int .u64 m.C, .int .i64 m.H, .int .i64 m.K]] u fun e w' => Hid (e = .returned (.bool true) ∧ Below u.heap.size u w')) := fun u => by
    have q := shaped_ok m.U m.C m.H m.K hC hC9 u
    rw [hm] at q
    exact q
  obtain ⟨qu, qh, k4, k2, _, qc, qlt⟩ := mayB_all hm
  have hr := headB_range qh
  have h1 : 0 ≤ m.H := by omega
  have h2 : m.H ≤ 4194304 := hr.2
  have k1 : 0 ≤ m.K := by omega
  have HAr : Hid (∀ u, Calls Try.prog 27 #[.agg #[.int .i64 m.U, .int .u64 m.C, .int .i64 m.H, .int .i64 m.K], .agg #[.int .i64 m.ao, .int .i64 m.az], .int .i64 m.mode, .int .u64 m.hot] u fun e w' => Hid (e = .returned (.bool true) ∧ Below u.heap.size u w')) := fun u => by
    have q := rarea_ok m.U m.C m.H m.K m.ao m.az m.mode hot u h1 h2 k1 k2 hz
    rw [ha] at q
    rw [hh]
    exact q
  have gt : decide ((m.to : Int) ≤ (m.fr : Int)) = false := by simp; omega
  have gtn : decide (m.to ≤ m.fr) = false := by simp; omega
  obtain ⟨x1, hx1⟩ : ∃ x1, Hid (x1 = epN EL m.fr m.en) := ⟨_, rfl⟩
  have g1 : ((x1 : Nat) : Int) = 1 := by rw [hx1.out, hef]; rfl
  have HEf : Hid (∀ u, Below w.heap.size w u → Calls Try.prog 29 #[.agg (mtC m), .int .u64 (m.fr : Nat)] u fun e w' => Hid (e = .returned (.int .i64 (x1 : Nat)) ∧ Below u.heap.size u w')) := fun u hu => by
    rw [hx1.out]
    exact epochs_ok m EL m.fr hen hn0 u (e1.out.below hu)
  obtain rfl : x1 = 1 := by omega
  obtain ⟨x2, hx2⟩ : ∃ x2, Hid (x2 = epN EL m.to m.en) := ⟨_, rfl⟩
  have g4 : ((x2 : Nat) : Int) ≠ 1 := by rw [hx2.out]; intro h; exact het (by omega)
  have HEt : Hid (∀ u, Below w.heap.size w u → Calls Try.prog 29 #[.agg (mtC m), .int .u64 (m.to : Nat)] u fun e w' => Hid (e = .returned (.int .i64 (x2 : Nat)) ∧ Below u.heap.size u w')) := fun u hu => by
    rw [hx2.out]
    exact epochs_ok m EL m.to hen hn0 u (e1.out.below hu)
  have g5 : (((x2 : Nat) : Int) == 1) = false := by simpa using g4
  have g6 : (((x2 : Nat) : Int) != 1) = true := by simpa using g4
  clear hm ha qu qh qc qlt hr hh k4 hN
  clear g4 het hef
  have bx : Bx (w.alloc (.cells (mtC m) 36)) w.heap.size m := World.alloc_heap_new w _
  have y4 := bx.c 4 (.int .i64 m.U) rfl
  have y5 := bx.c 5 (.int .u64 m.C) rfl
  have y6 := bx.c 6 (.int .i64 m.H) rfl
  have y7 := bx.c 7 (.int .i64 m.K) rfl
  have y14 := bx.c 14 (.bool m.on) rfl
  have y15 := bx.c 15 (.int .u64 (m.fr : Nat)) rfl
  have y16 := bx.c 16 (.int .u64 (m.to : Nat)) rfl
  have y17 := bx.c 17 (.bool m.back) rfl
  have y18 := bx.c 18 (.int .i64 m.mode) rfl
  have y19 := bx.c 19 (.int .u64 m.hot) rfl
  have y20 := bx.c 20 (.int .u64 (m.done : Nat)) rfl
  have y21 := bx.c 21 (.int .i64 m.ao) rfl
  have y22 := bx.c 22 (.int .i64 m.az) rfl
  have y23 := bx.c 23 (.bool m.act) rfl
  have y24 := bx.c 24 (.int .u64 m.cnt) rfl
  have y25 := bx.c 25 (.string m.sum) rfl
  clear bx
  have HW : Hid (Wk ((w.alloc (.cells (mtC m) 36)).alloc (.cells (roM m) 33)) w.heap.size m ∧ Below w.heap.size w ((w.alloc (.cells (mtC m) 36)).alloc (.cells (roM m) 33))) := ⟨Wk.new w m, AAt.nb _ _ _⟩
  go_enter Try.func39, Try.ntmps39
  go_upto_region 2 with fail
  generalize ((w.alloc (.cells (mtC m) 36)).alloc (.cells (roM m) 33)) = wz at HW ⊢
  clear y4 y5 y6 y7 y14 y15 y16 y17 y18 y19 y20 y21 y22 y23 y24 y25
  have y4 := HW.out.1.c 4 (.int .i64 m.U) rfl
  have y5 := HW.out.1.c 5 (.int .u64 m.C) rfl
  have y6 := HW.out.1.c 6 (.int .i64 m.H) rfl
  have y7 := HW.out.1.c 7 (.int .i64 m.K) rfl
  go_wp2_with (first | (go_at_call 26; refine (HM.out _).mono ?_; intro e5 w5 hh5; obtain ⟨he5, hb5⟩ := hh5.out; subst he5; have HW5 := HW.out.1.below hb5; have y4 := HW5.c 4 (.int .i64 m.U) rfl; have y5 := HW5.c 5 (.int .u64 m.C) rfl; have y6 := HW5.c 6 (.int .i64 m.H) rfl; have y7 := HW5.c 7 (.int .i64 m.K) rfl; have r4 := HW5.r 4 (.int .i64 m.mode) rfl; have r5 := HW5.r 5 (.int .u64 m.hot) rfl; have r7 := HW5.r 7 (.int .i64 m.ao) rfl; have r8 := HW5.r 8 (.int .i64 m.az) rfl; have r1 := HW5.r 1 (.int .u64 (m.fr : Nat)) rfl; have r2 := HW5.r 2 (.int .u64 (m.to : Nat)) rfl) | (go_at_call 27; refine (HAr.out _).mono ?_; intro e6 w6 hh6; obtain ⟨he6, hb6⟩ := hh6.out; subst he6; have HW6 := HW5.below hb6; clear y4 y5 y6 y7 r1 r2; have HB6 : Hid (Below w.heap.size w w6) := (HW.out.2.trans (hb5.mono HW.out.2.size)).trans (hb6.mono (Nat.le_trans HW.out.2.size hb5.size)); have r1 := HW6.r 1 (.int .u64 (m.fr : Nat)) rfl; have r2 := HW6.r 2 (.int .u64 (m.to : Nat)) rfl; have y4 := HW6.c 4 (.int .i64 m.U) rfl; have y5 := HW6.c 5 (.int .u64 m.C) rfl; have y6 := HW6.c 6 (.int .i64 m.H) rfl; have y7 := HW6.c 7 (.int .i64 m.K) rfl) | (go_at_call 29; refine (HEf.out _ HB6.out).mono ?_; intro e8 w8 hh8; obtain ⟨he8, hb8⟩ := hh8.out; subst he8; clear HEf; have HW8 := HW6.below hb8; have HB8 : Hid (Below w.heap.size w w8) := HB6.out.trans (hb8.mono HB6.out.size); have s1 := HW8.r 1 (.int .u64 (m.fr : Nat)) rfl; have s2 := HW8.r 2 (.int .u64 (m.to : Nat)) rfl; have y4 := HW8.c 4 (.int .i64 m.U) rfl; have y5 := HW8.c 5 (.int .u64 m.C) rfl; have y6 := HW8.c 6 (.int .i64 m.H) rfl; have y7 := HW8.c 7 (.int .i64 m.K) rfl) | (go_at_call 29; refine (HEt.out _ HB8.out).mono ?_; intro e9 w9 hh9; obtain ⟨he9, hb9⟩ := hh9.out; subst he9; clear HEt; have HW9 := HW8.below hb9; have HB9 : Hid (Below w.heap.size w w9) := HB8.out.trans (hb9.mono HB8.out.size); have s1 := HW9.r 1 (.int .u64 (m.fr : Nat)) rfl; have s2 := HW9.r 2 (.int .u64 (m.to : Nat)) rfl; have y4 := HW9.c 4 (.int .i64 m.U) rfl; have y5 := HW9.c 5 (.int .u64 m.C) rfl; have y6 := HW9.c 6 (.int .i64 m.H) rfl; have y7 := HW9.c 7 (.int .i64 m.K) rfl) | (refine wpList_load_want (by rfl) 36 (.tmp 1) (by rfl) w.heap.size 0 (by rfl) (mtC m).toList _ HW6.all Try.underlying36 rfl (size36 m) ?_) | (refine wpList_load_want (by rfl) 36 (.tmp 1) (by rfl) w.heap.size 0 (by rfl) (mtC m).toList _ HW8.all Try.underlying36 rfl (size36 m) ?_))
  all_goals
    go_ret
    exact ⟨rfl, HB9.out⟩
set_option maxHeartbeats 8000000 in
set_option maxRecDepth 100000 in
theorem rwork_5 (m : Mt) (hC : 0 ≤ m.C) (w : World) (hC9 : m.C ≤ 18446744073709551615) (hon : Hid (m.on = true)) (hot N : Nat) (EL : List Epo) (f : Nat → Int × Int × Int) (hh : m.hot = (hot : Int)) (hz : m.az ≤ 9223372036854775807) (hN : m.C - (2 * m.H + m.K) / m.U = (N : Nat)) (hN1 : 1 ≤ N) (hN2 : N ≤ 4294967296) (hsz : m.sum.size ≤ 9223372036854775807) (hgn : m.gn ≤ 1000000000000000) (hen : Hid (EL.length = m.en)) (hn0 : m.en ≤ 1000000000000000) (e1 : Hid (RV epoL 5 w m.ep EL)) (hSg : Hid (SegV w (.slice m.gp m.gn m.gc) m.gn f))
    (hm : mayB m.U m.C m.H m.K = true) (ha : areaB m.U m.H m.K m.ao m.az m.mode hot = true) (hft : m.fr < m.to) (hef : epN EL m.fr m.en = 1) (het : epN EL m.to m.en = 1) (hd : ¬ (m.done ≤ N)) : Calls Try.prog 39 #[.agg (mtC m)] w fun e w' => e = .returned (.bool false) ∧ Below w.heap.size w w' := by
  have HM : Hid (∀ u, Calls Try.prog 26 #[.agg #[.int .i64 m.U, .int .u64 m.C, .int .i64 m.H, .int .i64 m.K]] u fun e w' => Hid (e = .returned (.bool true) ∧ Below u.heap.size u w')) := fun u => by
    have q := shaped_ok m.U m.C m.H m.K hC hC9 u
    rw [hm] at q
    exact q
  obtain ⟨qu, qh, k4, k2, _, qc, qlt⟩ := mayB_all hm
  have hr := headB_range qh
  have h1 : 0 ≤ m.H := by omega
  have h2 : m.H ≤ 4194304 := hr.2
  have k1 : 0 ≤ m.K := by omega
  have HAr : Hid (∀ u, Calls Try.prog 27 #[.agg #[.int .i64 m.U, .int .u64 m.C, .int .i64 m.H, .int .i64 m.K], .agg #[.int .i64 m.ao, .int .i64 m.az], .int .i64 m.mode, .int .u64 m.hot] u fun e w' => Hid (e = .returned (.bool true) ∧ Below u.heap.size u w')) := fun u => by
    have q := rarea_ok m.U m.C m.H m.K m.ao m.az m.mode hot u h1 h2 k1 k2 hz
    rw [ha] at q
    rw [hh]
    exact q
  have gt : decide ((m.to : Int) ≤ (m.fr : Int)) = false := by simp; omega
  have gtn : decide (m.to ≤ m.fr) = false := by simp; omega
  obtain ⟨x1, hx1⟩ : ∃ x1, Hid (x1 = epN EL m.fr m.en) := ⟨_, rfl⟩
  have g1 : ((x1 : Nat) : Int) = 1 := by rw [hx1.out, hef]; rfl
  have HEf : Hid (∀ u, Below w.heap.size w u → Calls Try.prog 29 #[.agg (mtC m), .int .u64 (m.fr : Nat)] u fun e w' => Hid (e = .returned (.int .i64 (x1 : Nat)) ∧ Below u.heap.size u w')) := fun u hu => by
    rw [hx1.out]
    exact epochs_ok m EL m.fr hen hn0 u (e1.out.below hu)
  obtain rfl : x1 = 1 := by omega
  obtain ⟨x2, hx2⟩ : ∃ x2, Hid (x2 = epN EL m.to m.en) := ⟨_, rfl⟩
  have g4 : ((x2 : Nat) : Int) = 1 := by rw [hx2.out, het]; rfl
  have HEt : Hid (∀ u, Below w.heap.size w u → Calls Try.prog 29 #[.agg (mtC m), .int .u64 (m.to : Nat)] u fun e w' => Hid (e = .returned (.int .i64 (x2 : Nat)) ∧ Below u.heap.size u w')) := fun u hu => by
    rw [hx2.out]
    exact epochs_ok m EL m.to hen hn0 u (e1.out.below hu)
  obtain rfl : x2 = 1 := by omega
  have HSec : Hid (∀ u, Calls Try.prog 28 #[.agg #[.int .i64 m.U, .int .u64 m.C, .int .i64 m.H, .int .i64 m.K]] u fun e w' => Hid (e = .returned (.int .u64 (N : Nat)) ∧ Below u.heap.size u w')) := fun u => by
    have q := rsize_ok m.U m.C m.H m.K u qu h1 h2 k1 k2 (by omega) qc
    rw [hN] at q
    exact q
  have HSg : Hid (∀ u, Calls Try.prog 30 #[.int .u64 (N : Nat), .agg (roM m)] u (Sx.SegP u [] 2)) := fun u => by
    have q := Sx.rseg_ok N (rM m) u
    have ng : ¬ Sx.segGood N (rM m) := fun g => hd g.2.2.2
    rw [show Sx.segL N (rM m) = [] by rw [Sx.segL, if_neg ng], show Sx.segE N (rM m) = 2 by rw [Sx.segE, if_neg ng]] at q
    exact q
  clear hm ha qu qh qc qlt hr hh k4 hN
  clear hef het hd
  have bx : Bx (w.alloc (.cells (mtC m) 36)) w.heap.size m := World.alloc_heap_new w _
  have y4 := bx.c 4 (.int .i64 m.U) rfl
  have y5 := bx.c 5 (.int .u64 m.C) rfl
  have y6 := bx.c 6 (.int .i64 m.H) rfl
  have y7 := bx.c 7 (.int .i64 m.K) rfl
  have y14 := bx.c 14 (.bool m.on) rfl
  have y15 := bx.c 15 (.int .u64 (m.fr : Nat)) rfl
  have y16 := bx.c 16 (.int .u64 (m.to : Nat)) rfl
  have y17 := bx.c 17 (.bool m.back) rfl
  have y18 := bx.c 18 (.int .i64 m.mode) rfl
  have y19 := bx.c 19 (.int .u64 m.hot) rfl
  have y20 := bx.c 20 (.int .u64 (m.done : Nat)) rfl
  have y21 := bx.c 21 (.int .i64 m.ao) rfl
  have y22 := bx.c 22 (.int .i64 m.az) rfl
  have y23 := bx.c 23 (.bool m.act) rfl
  have y24 := bx.c 24 (.int .u64 m.cnt) rfl
  have y25 := bx.c 25 (.string m.sum) rfl
  clear bx
  have HW : Hid (Wk ((w.alloc (.cells (mtC m) 36)).alloc (.cells (roM m) 33)) w.heap.size m ∧ Below w.heap.size w ((w.alloc (.cells (mtC m) 36)).alloc (.cells (roM m) 33))) := ⟨Wk.new w m, AAt.nb _ _ _⟩
  go_enter Try.func39, Try.ntmps39
  go_upto_region 2 with fail
  generalize ((w.alloc (.cells (mtC m) 36)).alloc (.cells (roM m) 33)) = wz at HW ⊢
  clear y4 y5 y6 y7 y14 y15 y16 y17 y18 y19 y20 y21 y22 y23 y24 y25
  have y4 := HW.out.1.c 4 (.int .i64 m.U) rfl
  have y5 := HW.out.1.c 5 (.int .u64 m.C) rfl
  have y6 := HW.out.1.c 6 (.int .i64 m.H) rfl
  have y7 := HW.out.1.c 7 (.int .i64 m.K) rfl
  go_upto_region 4 with (first | (go_at_call 26; refine (HM.out _).mono ?_; intro e5 w5 hh5; obtain ⟨he5, hb5⟩ := hh5.out; subst he5; have HW5 := HW.out.1.below hb5; have y4 := HW5.c 4 (.int .i64 m.U) rfl; have y5 := HW5.c 5 (.int .u64 m.C) rfl; have y6 := HW5.c 6 (.int .i64 m.H) rfl; have y7 := HW5.c 7 (.int .i64 m.K) rfl; have r4 := HW5.r 4 (.int .i64 m.mode) rfl; have r5 := HW5.r 5 (.int .u64 m.hot) rfl; have r7 := HW5.r 7 (.int .i64 m.ao) rfl; have r8 := HW5.r 8 (.int .i64 m.az) rfl; have r1 := HW5.r 1 (.int .u64 (m.fr : Nat)) rfl; have r2 := HW5.r 2 (.int .u64 (m.to : Nat)) rfl) | (go_at_call 27; refine (HAr.out _).mono ?_; intro e6 w6 hh6; obtain ⟨he6, hb6⟩ := hh6.out; subst he6; have HW6 := HW5.below hb6; clear y4 y5 y6 y7 r1 r2; have HB6 : Hid (Below w.heap.size w w6) := (HW.out.2.trans (hb5.mono HW.out.2.size)).trans (hb6.mono (Nat.le_trans HW.out.2.size hb5.size)); have r1 := HW6.r 1 (.int .u64 (m.fr : Nat)) rfl; have r2 := HW6.r 2 (.int .u64 (m.to : Nat)) rfl; have y4 := HW6.c 4 (.int .i64 m.U) rfl; have y5 := HW6.c 5 (.int .u64 m.C) rfl; have y6 := HW6.c 6 (.int .i64 m.H) rfl; have y7 := HW6.c 7 (.int .i64 m.K) rfl) | (go_at_call 29; refine (HEf.out _ HB6.out).mono ?_; intro e8 w8 hh8; obtain ⟨he8, hb8⟩ := hh8.out; subst he8; clear HEf; have HW8 := HW6.below hb8; have HB8 : Hid (Below w.heap.size w w8) := HB6.out.trans (hb8.mono HB6.out.size); have s1 := HW8.r 1 (.int .u64 (m.fr : Nat)) rfl; have s2 := HW8.r 2 (.int .u64 (m.to : Nat)) rfl; have y4 := HW8.c 4 (.int .i64 m.U) rfl; have y5 := HW8.c 5 (.int .u64 m.C) rfl; have y6 := HW8.c 6 (.int .i64 m.H) rfl; have y7 := HW8.c 7 (.int .i64 m.K) rfl) | (go_at_call 29; refine (HEt.out _ HB8.out).mono ?_; intro e9 w9 hh9; obtain ⟨he9, hb9⟩ := hh9.out; subst he9; clear HEt; have HW9 := HW8.below hb9; have HB9 : Hid (Below w.heap.size w w9) := HB8.out.trans (hb9.mono HB8.out.size); have s1 := HW9.r 1 (.int .u64 (m.fr : Nat)) rfl; have s2 := HW9.r 2 (.int .u64 (m.to : Nat)) rfl; have y4 := HW9.c 4 (.int .i64 m.U) rfl; have y5 := HW9.c 5 (.int .u64 m.C) rfl; have y6 := HW9.c 6 (.int .i64 m.H) rfl; have y7 := HW9.c 7 (.int .i64 m.K) rfl) | (refine wpList_load_want (by rfl) 36 (.tmp 1) (by rfl) w.heap.size 0 (by rfl) (mtC m).toList _ HW6.all Try.underlying36 rfl (size36 m) ?_) | (refine wpList_load_want (by rfl) 36 (.tmp 1) (by rfl) w.heap.size 0 (by rfl) (mtC m).toList _ HW8.all Try.underlying36 rfl (size36 m) ?_))
  clear HW5 HW6 HW8 hb5 hb6 hb8 hb9 hh5 hh6 hh8 hh9 r4 r5 r7 r8 r1 r2 s1 s2 HM HAr HW HB6 HB8
  go_upto_region 5 with (go_at_call 28; refine (HSec.out _).mono ?_; intro e7 w7 hh7; obtain ⟨he7, hb7⟩ := hh7.out; subst he7; have HW7 := HW9.below hb7)
  have HB7 : Hid (Below w.heap.size w w7) := HB9.out.trans (hb7.mono HB9.out.size)
  clear HW9 hb7 hh7 y4 y5 y6 y7 HSec HB9
  go_upto_region 6 with (first | (go_at_call 30; refine (HSg.out _).mono ?_; rintro ea wa ⟨va, rfl, rowa, nila, hba⟩; have HWa := HW7.below hba) | (refine wpList_load_mid (by rfl) 33 (.tmp 3) (by rfl) (w.heap.size + 1) 0 (by rfl) (roM m).toList _ HW7.range Try.underlying33 rfl (by kernel_rfl) ?_))
  have HBa : Hid (Below w.heap.size w wa) := HB7.out.trans (hba.mono HB7.out.size)
  go_wp2
  go_ret
  exact ⟨rfl, HBa.out⟩
set_option maxHeartbeats 8000000 in
set_option maxRecDepth 100000 in
theorem rwork_6 (m : Mt) (hC : 0 ≤ m.C) (w : World) (hC9 : m.C ≤ 18446744073709551615) (hon : Hid (m.on = true)) (hot N : Nat) (EL : List Epo) (f : Nat → Int × Int × Int) (hh : m.hot = (hot : Int)) (hz : m.az ≤ 9223372036854775807) (hN : m.C - (2 * m.H + m.K) / m.U = (N : Nat)) (hN1 : 1 ≤ N) (hN2 : N ≤ 4294967296) (hsz : m.sum.size ≤ 9223372036854775807) (hgn : m.gn ≤ 1000000000000000) (hen : Hid (EL.length = m.en)) (hn0 : m.en ≤ 1000000000000000) (e1 : Hid (RV epoL 5 w m.ep EL)) (hSg : Hid (SegV w (.slice m.gp m.gn m.gc) m.gn f))
    (hm : mayB m.U m.C m.H m.K = true) (ha : areaB m.U m.H m.K m.ao m.az m.mode hot = true) (hft : m.fr < m.to) (hef : epN EL m.fr m.en = 1) (het : epN EL m.to m.en = 1) (hd : m.done ≤ N) (hJ : ¬ (JustP m.gn f (Sx.kept [Sx.segX N (rM m), Sx.segY N (rM m)]))) : Calls Try.prog 39 #[.agg (mtC m)] w fun e w' => e = .returned (.bool false) ∧ Below w.heap.size w w' := by
  have HM : Hid (∀ u, Calls Try.prog 26 #[.agg #[.int .i64 m.U, .int .u64 m.C, .int .i64 m.H, .int .i64 m.K]] u fun e w' => Hid (e = .returned (.bool true) ∧ Below u.heap.size u w')) := fun u => by
    have q := shaped_ok m.U m.C m.H m.K hC hC9 u
    rw [hm] at q
    exact q
  obtain ⟨qu, qh, k4, k2, _, qc, qlt⟩ := mayB_all hm
  have hr := headB_range qh
  have h1 : 0 ≤ m.H := by omega
  have h2 : m.H ≤ 4194304 := hr.2
  have k1 : 0 ≤ m.K := by omega
  have HAr : Hid (∀ u, Calls Try.prog 27 #[.agg #[.int .i64 m.U, .int .u64 m.C, .int .i64 m.H, .int .i64 m.K], .agg #[.int .i64 m.ao, .int .i64 m.az], .int .i64 m.mode, .int .u64 m.hot] u fun e w' => Hid (e = .returned (.bool true) ∧ Below u.heap.size u w')) := fun u => by
    have q := rarea_ok m.U m.C m.H m.K m.ao m.az m.mode hot u h1 h2 k1 k2 hz
    rw [ha] at q
    rw [hh]
    exact q
  have gt : decide ((m.to : Int) ≤ (m.fr : Int)) = false := by simp; omega
  have gtn : decide (m.to ≤ m.fr) = false := by simp; omega
  obtain ⟨x1, hx1⟩ : ∃ x1, Hid (x1 = epN EL m.fr m.en) := ⟨_, rfl⟩
  have g1 : ((x1 : Nat) : Int) = 1 := by rw [hx1.out, hef]; rfl
  have HEf : Hid (∀ u, Below w.heap.size w u → Calls Try.prog 29 #[.agg (mtC m), .int .u64 (m.fr : Nat)] u fun e w' => Hid (e = .returned (.int .i64 (x1 : Nat)) ∧ Below u.heap.size u w')) := fun u hu => by
    rw [hx1.out]
    exact epochs_ok m EL m.fr hen hn0 u (e1.out.below hu)
  obtain rfl : x1 = 1 := by omega
  obtain ⟨x2, hx2⟩ : ∃ x2, Hid (x2 = epN EL m.to m.en) := ⟨_, rfl⟩
  have g4 : ((x2 : Nat) : Int) = 1 := by rw [hx2.out, het]; rfl
  have HEt : Hid (∀ u, Below w.heap.size w u → Calls Try.prog 29 #[.agg (mtC m), .int .u64 (m.to : Nat)] u fun e w' => Hid (e = .returned (.int .i64 (x2 : Nat)) ∧ Below u.heap.size u w')) := fun u hu => by
    rw [hx2.out]
    exact epochs_ok m EL m.to hen hn0 u (e1.out.below hu)
  obtain rfl : x2 = 1 := by omega
  have HSec : Hid (∀ u, Calls Try.prog 28 #[.agg #[.int .i64 m.U, .int .u64 m.C, .int .i64 m.H, .int .i64 m.K]] u fun e w' => Hid (e = .returned (.int .u64 (N : Nat)) ∧ Below u.heap.size u w')) := fun u => by
    have q := rsize_ok m.U m.C m.H m.K u qu h1 h2 k1 k2 (by omega) qc
    rw [hN] at q
    exact q
  have HSg : Hid (∀ u, Calls Try.prog 30 #[.int .u64 (N : Nat), .agg (roM m)] u (Sx.SegP u (Sx.kept [Sx.segX N (rM m), Sx.segY N (rM m)]) 0)) := fun u => by
    have q := Sx.rseg_ok N (rM m) u
    have ng : Sx.segGood N (rM m) := ⟨hN1, hN2, hon.out, hd⟩
    rw [show Sx.segL N (rM m) = Sx.kept [Sx.segX N (rM m), Sx.segY N (rM m)] by rw [Sx.segL, if_pos ng], show Sx.segE N (rM m) = 0 by rw [Sx.segE, if_pos ng]] at q
    exact q
  have hkl : (Sx.kept [Sx.segX N (rM m), Sx.segY N (rM m)]).length ≤ 2 := Nat.le_trans (List.length_filter_le _ _) (by simp)
  generalize Sx.kept [Sx.segX N (rM m), Sx.segY N (rM m)] = KL at *
  clear hm ha qu qh qc qlt hr hh k4 hN
  clear hef het
  have bx : Bx (w.alloc (.cells (mtC m) 36)) w.heap.size m := World.alloc_heap_new w _
  have y4 := bx.c 4 (.int .i64 m.U) rfl
  have y5 := bx.c 5 (.int .u64 m.C) rfl
  have y6 := bx.c 6 (.int .i64 m.H) rfl
  have y7 := bx.c 7 (.int .i64 m.K) rfl
  have y14 := bx.c 14 (.bool m.on) rfl
  have y15 := bx.c 15 (.int .u64 (m.fr : Nat)) rfl
  have y16 := bx.c 16 (.int .u64 (m.to : Nat)) rfl
  have y17 := bx.c 17 (.bool m.back) rfl
  have y18 := bx.c 18 (.int .i64 m.mode) rfl
  have y19 := bx.c 19 (.int .u64 m.hot) rfl
  have y20 := bx.c 20 (.int .u64 (m.done : Nat)) rfl
  have y21 := bx.c 21 (.int .i64 m.ao) rfl
  have y22 := bx.c 22 (.int .i64 m.az) rfl
  have y23 := bx.c 23 (.bool m.act) rfl
  have y24 := bx.c 24 (.int .u64 m.cnt) rfl
  have y25 := bx.c 25 (.string m.sum) rfl
  clear bx
  have HW : Hid (Wk ((w.alloc (.cells (mtC m) 36)).alloc (.cells (roM m) 33)) w.heap.size m ∧ Below w.heap.size w ((w.alloc (.cells (mtC m) 36)).alloc (.cells (roM m) 33))) := ⟨Wk.new w m, AAt.nb _ _ _⟩
  go_enter Try.func39, Try.ntmps39
  go_upto_region 2 with fail
  generalize ((w.alloc (.cells (mtC m) 36)).alloc (.cells (roM m) 33)) = wz at HW ⊢
  clear y4 y5 y6 y7 y14 y15 y16 y17 y18 y19 y20 y21 y22 y23 y24 y25
  have y4 := HW.out.1.c 4 (.int .i64 m.U) rfl
  have y5 := HW.out.1.c 5 (.int .u64 m.C) rfl
  have y6 := HW.out.1.c 6 (.int .i64 m.H) rfl
  have y7 := HW.out.1.c 7 (.int .i64 m.K) rfl
  go_upto_region 4 with (first | (go_at_call 26; refine (HM.out _).mono ?_; intro e5 w5 hh5; obtain ⟨he5, hb5⟩ := hh5.out; subst he5; have HW5 := HW.out.1.below hb5; have y4 := HW5.c 4 (.int .i64 m.U) rfl; have y5 := HW5.c 5 (.int .u64 m.C) rfl; have y6 := HW5.c 6 (.int .i64 m.H) rfl; have y7 := HW5.c 7 (.int .i64 m.K) rfl; have r4 := HW5.r 4 (.int .i64 m.mode) rfl; have r5 := HW5.r 5 (.int .u64 m.hot) rfl; have r7 := HW5.r 7 (.int .i64 m.ao) rfl; have r8 := HW5.r 8 (.int .i64 m.az) rfl; have r1 := HW5.r 1 (.int .u64 (m.fr : Nat)) rfl; have r2 := HW5.r 2 (.int .u64 (m.to : Nat)) rfl) | (go_at_call 27; refine (HAr.out _).mono ?_; intro e6 w6 hh6; obtain ⟨he6, hb6⟩ := hh6.out; subst he6; have HW6 := HW5.below hb6; clear y4 y5 y6 y7 r1 r2; have HB6 : Hid (Below w.heap.size w w6) := (HW.out.2.trans (hb5.mono HW.out.2.size)).trans (hb6.mono (Nat.le_trans HW.out.2.size hb5.size)); have r1 := HW6.r 1 (.int .u64 (m.fr : Nat)) rfl; have r2 := HW6.r 2 (.int .u64 (m.to : Nat)) rfl; have y4 := HW6.c 4 (.int .i64 m.U) rfl; have y5 := HW6.c 5 (.int .u64 m.C) rfl; have y6 := HW6.c 6 (.int .i64 m.H) rfl; have y7 := HW6.c 7 (.int .i64 m.K) rfl) | (go_at_call 29; refine (HEf.out _ HB6.out).mono ?_; intro e8 w8 hh8; obtain ⟨he8, hb8⟩ := hh8.out; subst he8; clear HEf; have HW8 := HW6.below hb8; have HB8 : Hid (Below w.heap.size w w8) := HB6.out.trans (hb8.mono HB6.out.size); have s1 := HW8.r 1 (.int .u64 (m.fr : Nat)) rfl; have s2 := HW8.r 2 (.int .u64 (m.to : Nat)) rfl; have y4 := HW8.c 4 (.int .i64 m.U) rfl; have y5 := HW8.c 5 (.int .u64 m.C) rfl; have y6 := HW8.c 6 (.int .i64 m.H) rfl; have y7 := HW8.c 7 (.int .i64 m.K) rfl) | (go_at_call 29; refine (HEt.out _ HB8.out).mono ?_; intro e9 w9 hh9; obtain ⟨he9, hb9⟩ := hh9.out; subst he9; clear HEt; have HW9 := HW8.below hb9; have HB9 : Hid (Below w.heap.size w w9) := HB8.out.trans (hb9.mono HB8.out.size); have s1 := HW9.r 1 (.int .u64 (m.fr : Nat)) rfl; have s2 := HW9.r 2 (.int .u64 (m.to : Nat)) rfl; have y4 := HW9.c 4 (.int .i64 m.U) rfl; have y5 := HW9.c 5 (.int .u64 m.C) rfl; have y6 := HW9.c 6 (.int .i64 m.H) rfl; have y7 := HW9.c 7 (.int .i64 m.K) rfl) | (refine wpList_load_want (by rfl) 36 (.tmp 1) (by rfl) w.heap.size 0 (by rfl) (mtC m).toList _ HW6.all Try.underlying36 rfl (size36 m) ?_) | (refine wpList_load_want (by rfl) 36 (.tmp 1) (by rfl) w.heap.size 0 (by rfl) (mtC m).toList _ HW8.all Try.underlying36 rfl (size36 m) ?_))
  clear HW5 HW6 HW8 hb5 hb6 hb8 hb9 hh5 hh6 hh8 hh9 r4 r5 r7 r8 r1 r2 s1 s2 HM HAr HW HB6 HB8
  go_upto_region 5 with (go_at_call 28; refine (HSec.out _).mono ?_; intro e7 w7 hh7; obtain ⟨he7, hb7⟩ := hh7.out; subst he7; have HW7 := HW9.below hb7)
  have HB7 : Hid (Below w.heap.size w w7) := HB9.out.trans (hb7.mono HB9.out.size)
  clear HW9 hb7 hh7 y4 y5 y6 y7 HSec HB9
  go_upto_region 6 with (first | (go_at_call 30; refine (HSg.out _).mono ?_; rintro ea wa ⟨va, rfl, rowa, nila, hba⟩; have HWa := HW7.below hba) | (refine wpList_load_mid (by rfl) 33 (.tmp 3) (by rfl) (w.heap.size + 1) 0 (by rfl) (roM m).toList _ HW7.range Try.underlying33 rfl (by kernel_rfl) ?_))
  have HBa : Hid (Below w.heap.size w wa) := HB7.out.trans (hba.mono HB7.out.size)
  have HSv : Hid (SegV wa va KL.length (fun i => (((KL.getD i (0, 0, 0)).1 : Nat), ((KL.getD i (0, 0, 0)).2.1 : Nat), ((KL.getD i (0, 0, 0)).2.2 : Nat)))) := segV_own rowa rfl
  have HC31 : Hid (Calls Try.prog 31 #[va, .slice m.gp m.gn m.gc] wa fun e w' => e = .returned (.bool false) ∧ wa.grownBy w' none) := by
    refine (sameG_ok (by omega) hgn wa HSv.out (hSg.out.below HBa.out)).mono ?_
    rintro e w' ⟨bb, he, hbb, hg⟩
    refine ⟨?_, hg⟩
    have key : bb = true ↔ JustP m.gn f KL := by
      rw [hbb]
      constructor
      · rintro ⟨q1, q2⟩
        refine ⟨q1, fun i x hx => ?_⟩
        have hi : i < KL.length := (List.getElem?_eq_some_iff.1 hx).1
        have := q2 i hi
        rw [← this, List.getD_eq_getElem?_getD, hx]
        rfl
      · rintro ⟨q1, q2⟩
        refine ⟨q1, fun i hi => ?_⟩
        rw [q2 i _ (List.getElem?_eq_getElem hi), List.getD_eq_getElem?_getD, List.getElem?_eq_getElem hi]
        rfl
    have : bb = false := by
      cases bb
      · rfl
      · exact absurd (key.1 rfl) hJ
    rw [he, this]
  have y13 := HWa.c 13 (.slice m.gp m.gn m.gc) rfl
  clear HSv rowa nila hba HW7 HB7 hJ HSg
  go_wp2_with (go_at_call 31; refine HC31.out.mono ?_; rintro eb wb ⟨rfl, hgb⟩)
  go_ret
  exact ⟨rfl, HBa.out.trans ((Sx.below_grown (Below.refl _ _) hgb (Nat.le_refl _) (by simp)).mono HBa.out.size)⟩
set_option maxHeartbeats 8000000 in
set_option maxRecDepth 100000 in
theorem rwork_7 (m : Mt) (hC : 0 ≤ m.C) (w : World) (hC9 : m.C ≤ 18446744073709551615) (hon : Hid (m.on = true)) (hact : Hid (m.act = false)) (hot N : Nat) (EL : List Epo) (f : Nat → Int × Int × Int) (hh : m.hot = (hot : Int)) (hz : m.az ≤ 9223372036854775807) (hN : m.C - (2 * m.H + m.K) / m.U = (N : Nat)) (hN1 : 1 ≤ N) (hN2 : N ≤ 4294967296) (hsz : m.sum.size ≤ 9223372036854775807) (hgn : m.gn ≤ 1000000000000000) (hen : Hid (EL.length = m.en)) (hn0 : m.en ≤ 1000000000000000) (e1 : Hid (RV epoL 5 w m.ep EL)) (hSg : Hid (SegV w (.slice m.gp m.gn m.gc) m.gn f))
    (hm : mayB m.U m.C m.H m.K = true) (ha : areaB m.U m.H m.K m.ao m.az m.mode hot = true) (hft : m.fr < m.to) (hef : epN EL m.fr m.en = 1) (het : epN EL m.to m.en = 1) (hd : m.done ≤ N) (hJ : JustP m.gn f (Sx.kept [Sx.segX N (rM m), Sx.segY N (rM m)])) : Calls Try.prog 39 #[.agg (mtC m)] w fun e w' => e = .returned (.bool (stepB m hot N)) ∧ Below w.heap.size w w' := by
  have HM : Hid (∀ u, Calls Try.prog 26 #[.agg #[.int .i64 m.U, .int .u64 m.C, .int .i64 m.H, .int .i64 m.K]] u fun e w' => Hid (e = .returned (.bool true) ∧ Below u.heap.size u w')) := fun u => by
    have q := shaped_ok m.U m.C m.H m.K hC hC9 u
    rw [hm] at q
    exact q
  obtain ⟨qu, qh, k4, k2, _, qc, qlt⟩ := mayB_all hm
  have hr := headB_range qh
  have h1 : 0 ≤ m.H := by omega
  have h2 : m.H ≤ 4194304 := hr.2
  have k1 : 0 ≤ m.K := by omega
  have HAr : Hid (∀ u, Calls Try.prog 27 #[.agg #[.int .i64 m.U, .int .u64 m.C, .int .i64 m.H, .int .i64 m.K], .agg #[.int .i64 m.ao, .int .i64 m.az], .int .i64 m.mode, .int .u64 m.hot] u fun e w' => Hid (e = .returned (.bool true) ∧ Below u.heap.size u w')) := fun u => by
    have q := rarea_ok m.U m.C m.H m.K m.ao m.az m.mode hot u h1 h2 k1 k2 hz
    rw [ha] at q
    rw [hh]
    exact q
  have gt : decide ((m.to : Int) ≤ (m.fr : Int)) = false := by simp; omega
  have gtn : decide (m.to ≤ m.fr) = false := by simp; omega
  obtain ⟨x1, hx1⟩ : ∃ x1, Hid (x1 = epN EL m.fr m.en) := ⟨_, rfl⟩
  have g1 : ((x1 : Nat) : Int) = 1 := by rw [hx1.out, hef]; rfl
  have HEf : Hid (∀ u, Below w.heap.size w u → Calls Try.prog 29 #[.agg (mtC m), .int .u64 (m.fr : Nat)] u fun e w' => Hid (e = .returned (.int .i64 (x1 : Nat)) ∧ Below u.heap.size u w')) := fun u hu => by
    rw [hx1.out]
    exact epochs_ok m EL m.fr hen hn0 u (e1.out.below hu)
  obtain rfl : x1 = 1 := by omega
  obtain ⟨x2, hx2⟩ : ∃ x2, Hid (x2 = epN EL m.to m.en) := ⟨_, rfl⟩
  have g4 : ((x2 : Nat) : Int) = 1 := by rw [hx2.out, het]; rfl
  have HEt : Hid (∀ u, Below w.heap.size w u → Calls Try.prog 29 #[.agg (mtC m), .int .u64 (m.to : Nat)] u fun e w' => Hid (e = .returned (.int .i64 (x2 : Nat)) ∧ Below u.heap.size u w')) := fun u hu => by
    rw [hx2.out]
    exact epochs_ok m EL m.to hen hn0 u (e1.out.below hu)
  obtain rfl : x2 = 1 := by omega
  have HSec : Hid (∀ u, Calls Try.prog 28 #[.agg #[.int .i64 m.U, .int .u64 m.C, .int .i64 m.H, .int .i64 m.K]] u fun e w' => Hid (e = .returned (.int .u64 (N : Nat)) ∧ Below u.heap.size u w')) := fun u => by
    have q := rsize_ok m.U m.C m.H m.K u qu h1 h2 k1 k2 (by omega) qc
    rw [hN] at q
    exact q
  have HSg : Hid (∀ u, Calls Try.prog 30 #[.int .u64 (N : Nat), .agg (roM m)] u (Sx.SegP u (Sx.kept [Sx.segX N (rM m), Sx.segY N (rM m)]) 0)) := fun u => by
    have q := Sx.rseg_ok N (rM m) u
    have ng : Sx.segGood N (rM m) := ⟨hN1, hN2, hon.out, hd⟩
    rw [show Sx.segL N (rM m) = Sx.kept [Sx.segX N (rM m), Sx.segY N (rM m)] by rw [Sx.segL, if_pos ng], show Sx.segE N (rM m) = 0 by rw [Sx.segE, if_pos ng]] at q
    exact q
  have hkl : (Sx.kept [Sx.segX N (rM m), Sx.segY N (rM m)]).length ≤ 2 := Nat.le_trans (List.length_filter_le _ _) (by simp)
  generalize Sx.kept [Sx.segX N (rM m), Sx.segY N (rM m)] = KL at *
  have HH : Hid (∀ u, ∃ x : Int, Calls Try.prog 40 #[.int .u64 (N : Nat), .agg (roM m)] u fun e w' => Hid (e = .returned (.tuple #[.int .u64 x, .int .u64 ((min hot (N - m.done) : Nat) : Int)]) ∧ Below u.heap.size u w')) := fun u => ⟨_, by
    rw [show roM m = roA m.on m.fr m.to m.back m.mode hot m.done m.ao m.az m.act m.cnt m.sum by simp [roM, roA, hh]]
    exact rhotz_ok m.on m.fr m.to m.back m.mode hot m.done m.ao m.az m.act m.cnt m.sum N hN2 hd u⟩
  have HSB : Hid (stepB m hot N = (decide (m.cnt = 0) && m.sum.toList.isEmpty)) := by show _ = _; simp [stepB, hact.out]
  rw [HSB.out]
  generalize min hot (N - m.done) = M at *
  clear hm ha qu qh qc qlt hr hh k4 hN
  clear hef het HSB
  have bx : Bx (w.alloc (.cells (mtC m) 36)) w.heap.size m := World.alloc_heap_new w _
  have y4 := bx.c 4 (.int .i64 m.U) rfl
  have y5 := bx.c 5 (.int .u64 m.C) rfl
  have y6 := bx.c 6 (.int .i64 m.H) rfl
  have y7 := bx.c 7 (.int .i64 m.K) rfl
  have y14 := bx.c 14 (.bool m.on) rfl
  have y15 := bx.c 15 (.int .u64 (m.fr : Nat)) rfl
  have y16 := bx.c 16 (.int .u64 (m.to : Nat)) rfl
  have y17 := bx.c 17 (.bool m.back) rfl
  have y18 := bx.c 18 (.int .i64 m.mode) rfl
  have y19 := bx.c 19 (.int .u64 m.hot) rfl
  have y20 := bx.c 20 (.int .u64 (m.done : Nat)) rfl
  have y21 := bx.c 21 (.int .i64 m.ao) rfl
  have y22 := bx.c 22 (.int .i64 m.az) rfl
  have y23 := bx.c 23 (.bool m.act) rfl
  have y24 := bx.c 24 (.int .u64 m.cnt) rfl
  have y25 := bx.c 25 (.string m.sum) rfl
  clear bx
  have HW : Hid (Wk ((w.alloc (.cells (mtC m) 36)).alloc (.cells (roM m) 33)) w.heap.size m ∧ Below w.heap.size w ((w.alloc (.cells (mtC m) 36)).alloc (.cells (roM m) 33))) := ⟨Wk.new w m, AAt.nb _ _ _⟩
  go_enter Try.func39, Try.ntmps39
  go_upto_region 2 with fail
  generalize ((w.alloc (.cells (mtC m) 36)).alloc (.cells (roM m) 33)) = wz at HW ⊢
  clear y4 y5 y6 y7 y14 y15 y16 y17 y18 y19 y20 y21 y22 y23 y24 y25
  have y4 := HW.out.1.c 4 (.int .i64 m.U) rfl
  have y5 := HW.out.1.c 5 (.int .u64 m.C) rfl
  have y6 := HW.out.1.c 6 (.int .i64 m.H) rfl
  have y7 := HW.out.1.c 7 (.int .i64 m.K) rfl
  go_upto_region 4 with (first | (go_at_call 26; refine (HM.out _).mono ?_; intro e5 w5 hh5; obtain ⟨he5, hb5⟩ := hh5.out; subst he5; have HW5 := HW.out.1.below hb5; have y4 := HW5.c 4 (.int .i64 m.U) rfl; have y5 := HW5.c 5 (.int .u64 m.C) rfl; have y6 := HW5.c 6 (.int .i64 m.H) rfl; have y7 := HW5.c 7 (.int .i64 m.K) rfl; have r4 := HW5.r 4 (.int .i64 m.mode) rfl; have r5 := HW5.r 5 (.int .u64 m.hot) rfl; have r7 := HW5.r 7 (.int .i64 m.ao) rfl; have r8 := HW5.r 8 (.int .i64 m.az) rfl; have r1 := HW5.r 1 (.int .u64 (m.fr : Nat)) rfl; have r2 := HW5.r 2 (.int .u64 (m.to : Nat)) rfl) | (go_at_call 27; refine (HAr.out _).mono ?_; intro e6 w6 hh6; obtain ⟨he6, hb6⟩ := hh6.out; subst he6; have HW6 := HW5.below hb6; clear y4 y5 y6 y7 r1 r2; have HB6 : Hid (Below w.heap.size w w6) := (HW.out.2.trans (hb5.mono HW.out.2.size)).trans (hb6.mono (Nat.le_trans HW.out.2.size hb5.size)); have r1 := HW6.r 1 (.int .u64 (m.fr : Nat)) rfl; have r2 := HW6.r 2 (.int .u64 (m.to : Nat)) rfl; have y4 := HW6.c 4 (.int .i64 m.U) rfl; have y5 := HW6.c 5 (.int .u64 m.C) rfl; have y6 := HW6.c 6 (.int .i64 m.H) rfl; have y7 := HW6.c 7 (.int .i64 m.K) rfl) | (go_at_call 29; refine (HEf.out _ HB6.out).mono ?_; intro e8 w8 hh8; obtain ⟨he8, hb8⟩ := hh8.out; subst he8; clear HEf; have HW8 := HW6.below hb8; have HB8 : Hid (Below w.heap.size w w8) := HB6.out.trans (hb8.mono HB6.out.size); have s1 := HW8.r 1 (.int .u64 (m.fr : Nat)) rfl; have s2 := HW8.r 2 (.int .u64 (m.to : Nat)) rfl; have y4 := HW8.c 4 (.int .i64 m.U) rfl; have y5 := HW8.c 5 (.int .u64 m.C) rfl; have y6 := HW8.c 6 (.int .i64 m.H) rfl; have y7 := HW8.c 7 (.int .i64 m.K) rfl) | (go_at_call 29; refine (HEt.out _ HB8.out).mono ?_; intro e9 w9 hh9; obtain ⟨he9, hb9⟩ := hh9.out; subst he9; clear HEt; have HW9 := HW8.below hb9; have HB9 : Hid (Below w.heap.size w w9) := HB8.out.trans (hb9.mono HB8.out.size); have s1 := HW9.r 1 (.int .u64 (m.fr : Nat)) rfl; have s2 := HW9.r 2 (.int .u64 (m.to : Nat)) rfl; have y4 := HW9.c 4 (.int .i64 m.U) rfl; have y5 := HW9.c 5 (.int .u64 m.C) rfl; have y6 := HW9.c 6 (.int .i64 m.H) rfl; have y7 := HW9.c 7 (.int .i64 m.K) rfl) | (refine wpList_load_want (by rfl) 36 (.tmp 1) (by rfl) w.heap.size 0 (by rfl) (mtC m).toList _ HW6.all Try.underlying36 rfl (size36 m) ?_) | (refine wpList_load_want (by rfl) 36 (.tmp 1) (by rfl) w.heap.size 0 (by rfl) (mtC m).toList _ HW8.all Try.underlying36 rfl (size36 m) ?_))
  clear HW5 HW6 HW8 hb5 hb6 hb8 hb9 hh5 hh6 hh8 hh9 r4 r5 r7 r8 r1 r2 s1 s2 HM HAr HW HB6 HB8
  go_upto_region 5 with (go_at_call 28; refine (HSec.out _).mono ?_; intro e7 w7 hh7; obtain ⟨he7, hb7⟩ := hh7.out; subst he7; have HW7 := HW9.below hb7)
  have HB7 : Hid (Below w.heap.size w w7) := HB9.out.trans (hb7.mono HB9.out.size)
  clear HW9 hb7 hh7 y4 y5 y6 y7 HSec HB9
  go_upto_region 6 with (first | (go_at_call 30; refine (HSg.out _).mono ?_; rintro ea wa ⟨va, rfl, rowa, nila, hba⟩; have HWa := HW7.below hba) | (refine wpList_load_mid (by rfl) 33 (.tmp 3) (by rfl) (w.heap.size + 1) 0 (by rfl) (roM m).toList _ HW7.range Try.underlying33 rfl (by kernel_rfl) ?_))
  have HBa : Hid (Below w.heap.size w wa) := HB7.out.trans (hba.mono HB7.out.size)
  have HSv : Hid (SegV wa va KL.length (fun i => (((KL.getD i (0, 0, 0)).1 : Nat), ((KL.getD i (0, 0, 0)).2.1 : Nat), ((KL.getD i (0, 0, 0)).2.2 : Nat)))) := segV_own rowa rfl
  have HC31 : Hid (Calls Try.prog 31 #[va, .slice m.gp m.gn m.gc] wa fun e w' => e = .returned (.bool true) ∧ wa.grownBy w' none) := by
    refine (sameG_ok (by omega) hgn wa HSv.out (hSg.out.below HBa.out)).mono ?_
    rintro e w' ⟨bb, he, hbb, hg⟩
    refine ⟨?_, hg⟩
    have key : bb = true ↔ JustP m.gn f KL := by
      rw [hbb]
      constructor
      · rintro ⟨q1, q2⟩
        refine ⟨q1, fun i x hx => ?_⟩
        have hi : i < KL.length := (List.getElem?_eq_some_iff.1 hx).1
        have := q2 i hi
        rw [← this, List.getD_eq_getElem?_getD, hx]
        rfl
      · rintro ⟨q1, q2⟩
        refine ⟨q1, fun i hi => ?_⟩
        rw [q2 i _ (List.getElem?_eq_getElem hi), List.getD_eq_getElem?_getD, List.getElem?_eq_getElem hi]
        rfl
    rw [he, key.2 hJ]
  have y13 := HWa.c 13 (.slice m.gp m.gn m.gc) rfl
  clear HSv rowa nila hba HW7 HB7 hJ HSg
  go_upto_region 8 with (go_at_call 31; refine HC31.out.mono ?_; rintro eb wb ⟨rfl, hgb⟩)
  have hbb : Below wa.heap.size wa wb := Sx.below_grown (Below.refl _ _) hgb (Nat.le_refl _) (by simp)
  have HWb := HWa.below hbb
  have HBb : Hid (Below w.heap.size w wb) := HBa.out.trans (hbb.mono HBa.out.size)
  clear HWa HBa hgb hbb y13 HC31
  obtain ⟨xx, HHx⟩ := HH.out wb
  have HX : Hid (Calls Try.prog 40 #[.int .u64 (N : Nat), .agg (roM m)] wb fun e w' => Hid (e = .returned (.tuple #[.int .u64 xx, .int .u64 (M : Int)]) ∧ Below wb.heap.size wb w')) := HHx
  clear HHx HH
  go_upto_region 9 with (first | (go_at_call 40; refine HX.out.mono ?_; intro ec wc hhc; obtain ⟨hec, hbc⟩ := hhc.out; subst hec) | (refine wpList_load_mid (by rfl) 33 (.tmp 3) (by rfl) (w.heap.size + 1) 0 (by rfl) (roM m).toList _ HWb.range Try.underlying33 rfl (by kernel_rfl) ?_))
  have HWc := HWb.below hbc
  have HBc : Hid (Below w.heap.size w wc) := HBb.out.trans (hbc.mono HBb.out.size)
  have r9 : wc.cell? ⟨w.heap.size + 1, 9, none⟩ = some (.bool false) := by have q := HWc.r 9 (.bool m.act) rfl; rw [hact.out] at q; exact q
  have r10 := HWc.r 10 (.int .u64 m.cnt) rfl
  have r11 := HWc.r 11 (.string m.sum) rfl
  clear HWb HWc HBb hbc hhc HX
  by_cases hcn : m.cnt = 0
  · have q0 : (m.cnt == 0) = true := by simp [hcn]
    have HF : Hid ((decide (m.cnt = 0) && m.sum.toList.isEmpty) = m.sum.toList.isEmpty) := by show _ = _; simp [hcn]
    clear hcn
    go_wp2
    go_ret
    exact ⟨congrArg (fun b => Ending.returned (Value.bool b)) HF.out.symm, HBc.out⟩
  · have q0 : (m.cnt == 0) = false := by simp [hcn]
    have HF : Hid ((decide (m.cnt = 0) && m.sum.toList.isEmpty) = false) := by show _ = _; simp [hcn]
    clear hcn
    go_wp2
    go_ret
    exact ⟨congrArg (fun b => Ending.returned (Value.bool b)) HF.out.symm, HBc.out⟩
set_option maxHeartbeats 8000000 in
set_option maxRecDepth 100000 in
theorem rwork_8 (m : Mt) (hC : 0 ≤ m.C) (w : World) (hC9 : m.C ≤ 18446744073709551615) (hon : Hid (m.on = true)) (hact : Hid (m.act = true)) (hot N : Nat) (EL : List Epo) (f : Nat → Int × Int × Int) (hh : m.hot = (hot : Int)) (hz : m.az ≤ 9223372036854775807) (hN : m.C - (2 * m.H + m.K) / m.U = (N : Nat)) (hN1 : 1 ≤ N) (hN2 : N ≤ 4294967296) (hsz : m.sum.size ≤ 9223372036854775807) (hgn : m.gn ≤ 1000000000000000) (hen : Hid (EL.length = m.en)) (hn0 : m.en ≤ 1000000000000000) (e1 : Hid (RV epoL 5 w m.ep EL)) (hSg : Hid (SegV w (.slice m.gp m.gn m.gc) m.gn f))
    (hm : mayB m.U m.C m.H m.K = true) (ha : areaB m.U m.H m.K m.ao m.az m.mode hot = true) (hft : m.fr < m.to) (hef : epN EL m.fr m.en = 1) (het : epN EL m.to m.en = 1) (hd : m.done ≤ N) (hJ : JustP m.gn f (Sx.kept [Sx.segX N (rM m), Sx.segY N (rM m)])) : Calls Try.prog 39 #[.agg (mtC m)] w fun e w' => e = .returned (.bool (stepB m hot N)) ∧ Below w.heap.size w w' := by
  have HM : Hid (∀ u, Calls Try.prog 26 #[.agg #[.int .i64 m.U, .int .u64 m.C, .int .i64 m.H, .int .i64 m.K]] u fun e w' => Hid (e = .returned (.bool true) ∧ Below u.heap.size u w')) := fun u => by
    have q := shaped_ok m.U m.C m.H m.K hC hC9 u
    rw [hm] at q
    exact q
  obtain ⟨qu, qh, k4, k2, _, qc, qlt⟩ := mayB_all hm
  have hr := headB_range qh
  have h1 : 0 ≤ m.H := by omega
  have h2 : m.H ≤ 4194304 := hr.2
  have k1 : 0 ≤ m.K := by omega
  have HAr : Hid (∀ u, Calls Try.prog 27 #[.agg #[.int .i64 m.U, .int .u64 m.C, .int .i64 m.H, .int .i64 m.K], .agg #[.int .i64 m.ao, .int .i64 m.az], .int .i64 m.mode, .int .u64 m.hot] u fun e w' => Hid (e = .returned (.bool true) ∧ Below u.heap.size u w')) := fun u => by
    have q := rarea_ok m.U m.C m.H m.K m.ao m.az m.mode hot u h1 h2 k1 k2 hz
    rw [ha] at q
    rw [hh]
    exact q
  have gt : decide ((m.to : Int) ≤ (m.fr : Int)) = false := by simp; omega
  have gtn : decide (m.to ≤ m.fr) = false := by simp; omega
  obtain ⟨x1, hx1⟩ : ∃ x1, Hid (x1 = epN EL m.fr m.en) := ⟨_, rfl⟩
  have g1 : ((x1 : Nat) : Int) = 1 := by rw [hx1.out, hef]; rfl
  have HEf : Hid (∀ u, Below w.heap.size w u → Calls Try.prog 29 #[.agg (mtC m), .int .u64 (m.fr : Nat)] u fun e w' => Hid (e = .returned (.int .i64 (x1 : Nat)) ∧ Below u.heap.size u w')) := fun u hu => by
    rw [hx1.out]
    exact epochs_ok m EL m.fr hen hn0 u (e1.out.below hu)
  obtain rfl : x1 = 1 := by omega
  obtain ⟨x2, hx2⟩ : ∃ x2, Hid (x2 = epN EL m.to m.en) := ⟨_, rfl⟩
  have g4 : ((x2 : Nat) : Int) = 1 := by rw [hx2.out, het]; rfl
  have HEt : Hid (∀ u, Below w.heap.size w u → Calls Try.prog 29 #[.agg (mtC m), .int .u64 (m.to : Nat)] u fun e w' => Hid (e = .returned (.int .i64 (x2 : Nat)) ∧ Below u.heap.size u w')) := fun u hu => by
    rw [hx2.out]
    exact epochs_ok m EL m.to hen hn0 u (e1.out.below hu)
  obtain rfl : x2 = 1 := by omega
  have HSec : Hid (∀ u, Calls Try.prog 28 #[.agg #[.int .i64 m.U, .int .u64 m.C, .int .i64 m.H, .int .i64 m.K]] u fun e w' => Hid (e = .returned (.int .u64 (N : Nat)) ∧ Below u.heap.size u w')) := fun u => by
    have q := rsize_ok m.U m.C m.H m.K u qu h1 h2 k1 k2 (by omega) qc
    rw [hN] at q
    exact q
  have HSg : Hid (∀ u, Calls Try.prog 30 #[.int .u64 (N : Nat), .agg (roM m)] u (Sx.SegP u (Sx.kept [Sx.segX N (rM m), Sx.segY N (rM m)]) 0)) := fun u => by
    have q := Sx.rseg_ok N (rM m) u
    have ng : Sx.segGood N (rM m) := ⟨hN1, hN2, hon.out, hd⟩
    rw [show Sx.segL N (rM m) = Sx.kept [Sx.segX N (rM m), Sx.segY N (rM m)] by rw [Sx.segL, if_pos ng], show Sx.segE N (rM m) = 0 by rw [Sx.segE, if_pos ng]] at q
    exact q
  have hkl : (Sx.kept [Sx.segX N (rM m), Sx.segY N (rM m)]).length ≤ 2 := Nat.le_trans (List.length_filter_le _ _) (by simp)
  generalize Sx.kept [Sx.segX N (rM m), Sx.segY N (rM m)] = KL at *
  have HH : Hid (∀ u, ∃ x : Int, Calls Try.prog 40 #[.int .u64 (N : Nat), .agg (roM m)] u fun e w' => Hid (e = .returned (.tuple #[.int .u64 x, .int .u64 ((min hot (N - m.done) : Nat) : Int)]) ∧ Below u.heap.size u w')) := fun u => ⟨_, by
    rw [show roM m = roA m.on m.fr m.to m.back m.mode hot m.done m.ao m.az m.act m.cnt m.sum by simp [roM, roA, hh]]
    exact rhotz_ok m.on m.fr m.to m.back m.mode hot m.done m.ao m.az m.act m.cnt m.sum N hN2 hd u⟩
  have HSB : Hid (stepB m hot N = (decide (0 < min hot (N - m.done)) && decide (m.cnt = ((min hot (N - m.done) : Nat) : Int)) && decide (m.sum.size = 32))) := by show _ = _; simp [stepB, hact.out]
  rw [HSB.out]
  generalize min hot (N - m.done) = M at *
  clear hm ha qu qh qc qlt hr hh k4 hN
  clear hef het HSB
  have bx : Bx (w.alloc (.cells (mtC m) 36)) w.heap.size m := World.alloc_heap_new w _
  have y4 := bx.c 4 (.int .i64 m.U) rfl
  have y5 := bx.c 5 (.int .u64 m.C) rfl
  have y6 := bx.c 6 (.int .i64 m.H) rfl
  have y7 := bx.c 7 (.int .i64 m.K) rfl
  have y14 := bx.c 14 (.bool m.on) rfl
  have y15 := bx.c 15 (.int .u64 (m.fr : Nat)) rfl
  have y16 := bx.c 16 (.int .u64 (m.to : Nat)) rfl
  have y17 := bx.c 17 (.bool m.back) rfl
  have y18 := bx.c 18 (.int .i64 m.mode) rfl
  have y19 := bx.c 19 (.int .u64 m.hot) rfl
  have y20 := bx.c 20 (.int .u64 (m.done : Nat)) rfl
  have y21 := bx.c 21 (.int .i64 m.ao) rfl
  have y22 := bx.c 22 (.int .i64 m.az) rfl
  have y23 := bx.c 23 (.bool m.act) rfl
  have y24 := bx.c 24 (.int .u64 m.cnt) rfl
  have y25 := bx.c 25 (.string m.sum) rfl
  clear bx
  have HW : Hid (Wk ((w.alloc (.cells (mtC m) 36)).alloc (.cells (roM m) 33)) w.heap.size m ∧ Below w.heap.size w ((w.alloc (.cells (mtC m) 36)).alloc (.cells (roM m) 33))) := ⟨Wk.new w m, AAt.nb _ _ _⟩
  go_enter Try.func39, Try.ntmps39
  go_upto_region 2 with fail
  generalize ((w.alloc (.cells (mtC m) 36)).alloc (.cells (roM m) 33)) = wz at HW ⊢
  clear y4 y5 y6 y7 y14 y15 y16 y17 y18 y19 y20 y21 y22 y23 y24 y25
  have y4 := HW.out.1.c 4 (.int .i64 m.U) rfl
  have y5 := HW.out.1.c 5 (.int .u64 m.C) rfl
  have y6 := HW.out.1.c 6 (.int .i64 m.H) rfl
  have y7 := HW.out.1.c 7 (.int .i64 m.K) rfl
  go_upto_region 4 with (first | (go_at_call 26; refine (HM.out _).mono ?_; intro e5 w5 hh5; obtain ⟨he5, hb5⟩ := hh5.out; subst he5; have HW5 := HW.out.1.below hb5; have y4 := HW5.c 4 (.int .i64 m.U) rfl; have y5 := HW5.c 5 (.int .u64 m.C) rfl; have y6 := HW5.c 6 (.int .i64 m.H) rfl; have y7 := HW5.c 7 (.int .i64 m.K) rfl; have r4 := HW5.r 4 (.int .i64 m.mode) rfl; have r5 := HW5.r 5 (.int .u64 m.hot) rfl; have r7 := HW5.r 7 (.int .i64 m.ao) rfl; have r8 := HW5.r 8 (.int .i64 m.az) rfl; have r1 := HW5.r 1 (.int .u64 (m.fr : Nat)) rfl; have r2 := HW5.r 2 (.int .u64 (m.to : Nat)) rfl) | (go_at_call 27; refine (HAr.out _).mono ?_; intro e6 w6 hh6; obtain ⟨he6, hb6⟩ := hh6.out; subst he6; have HW6 := HW5.below hb6; clear y4 y5 y6 y7 r1 r2; have HB6 : Hid (Below w.heap.size w w6) := (HW.out.2.trans (hb5.mono HW.out.2.size)).trans (hb6.mono (Nat.le_trans HW.out.2.size hb5.size)); have r1 := HW6.r 1 (.int .u64 (m.fr : Nat)) rfl; have r2 := HW6.r 2 (.int .u64 (m.to : Nat)) rfl; have y4 := HW6.c 4 (.int .i64 m.U) rfl; have y5 := HW6.c 5 (.int .u64 m.C) rfl; have y6 := HW6.c 6 (.int .i64 m.H) rfl; have y7 := HW6.c 7 (.int .i64 m.K) rfl) | (go_at_call 29; refine (HEf.out _ HB6.out).mono ?_; intro e8 w8 hh8; obtain ⟨he8, hb8⟩ := hh8.out; subst he8; clear HEf; have HW8 := HW6.below hb8; have HB8 : Hid (Below w.heap.size w w8) := HB6.out.trans (hb8.mono HB6.out.size); have s1 := HW8.r 1 (.int .u64 (m.fr : Nat)) rfl; have s2 := HW8.r 2 (.int .u64 (m.to : Nat)) rfl; have y4 := HW8.c 4 (.int .i64 m.U) rfl; have y5 := HW8.c 5 (.int .u64 m.C) rfl; have y6 := HW8.c 6 (.int .i64 m.H) rfl; have y7 := HW8.c 7 (.int .i64 m.K) rfl) | (go_at_call 29; refine (HEt.out _ HB8.out).mono ?_; intro e9 w9 hh9; obtain ⟨he9, hb9⟩ := hh9.out; subst he9; clear HEt; have HW9 := HW8.below hb9; have HB9 : Hid (Below w.heap.size w w9) := HB8.out.trans (hb9.mono HB8.out.size); have s1 := HW9.r 1 (.int .u64 (m.fr : Nat)) rfl; have s2 := HW9.r 2 (.int .u64 (m.to : Nat)) rfl; have y4 := HW9.c 4 (.int .i64 m.U) rfl; have y5 := HW9.c 5 (.int .u64 m.C) rfl; have y6 := HW9.c 6 (.int .i64 m.H) rfl; have y7 := HW9.c 7 (.int .i64 m.K) rfl) | (refine wpList_load_want (by rfl) 36 (.tmp 1) (by rfl) w.heap.size 0 (by rfl) (mtC m).toList _ HW6.all Try.underlying36 rfl (size36 m) ?_) | (refine wpList_load_want (by rfl) 36 (.tmp 1) (by rfl) w.heap.size 0 (by rfl) (mtC m).toList _ HW8.all Try.underlying36 rfl (size36 m) ?_))
  clear HW5 HW6 HW8 hb5 hb6 hb8 hb9 hh5 hh6 hh8 hh9 r4 r5 r7 r8 r1 r2 s1 s2 HM HAr HW HB6 HB8
  go_upto_region 5 with (go_at_call 28; refine (HSec.out _).mono ?_; intro e7 w7 hh7; obtain ⟨he7, hb7⟩ := hh7.out; subst he7; have HW7 := HW9.below hb7)
  have HB7 : Hid (Below w.heap.size w w7) := HB9.out.trans (hb7.mono HB9.out.size)
  clear HW9 hb7 hh7 y4 y5 y6 y7 HSec HB9
  go_upto_region 6 with (first | (go_at_call 30; refine (HSg.out _).mono ?_; rintro ea wa ⟨va, rfl, rowa, nila, hba⟩; have HWa := HW7.below hba) | (refine wpList_load_mid (by rfl) 33 (.tmp 3) (by rfl) (w.heap.size + 1) 0 (by rfl) (roM m).toList _ HW7.range Try.underlying33 rfl (by kernel_rfl) ?_))
  have HBa : Hid (Below w.heap.size w wa) := HB7.out.trans (hba.mono HB7.out.size)
  have HSv : Hid (SegV wa va KL.length (fun i => (((KL.getD i (0, 0, 0)).1 : Nat), ((KL.getD i (0, 0, 0)).2.1 : Nat), ((KL.getD i (0, 0, 0)).2.2 : Nat)))) := segV_own rowa rfl
  have HC31 : Hid (Calls Try.prog 31 #[va, .slice m.gp m.gn m.gc] wa fun e w' => e = .returned (.bool true) ∧ wa.grownBy w' none) := by
    refine (sameG_ok (by omega) hgn wa HSv.out (hSg.out.below HBa.out)).mono ?_
    rintro e w' ⟨bb, he, hbb, hg⟩
    refine ⟨?_, hg⟩
    have key : bb = true ↔ JustP m.gn f KL := by
      rw [hbb]
      constructor
      · rintro ⟨q1, q2⟩
        refine ⟨q1, fun i x hx => ?_⟩
        have hi : i < KL.length := (List.getElem?_eq_some_iff.1 hx).1
        have := q2 i hi
        rw [← this, List.getD_eq_getElem?_getD, hx]
        rfl
      · rintro ⟨q1, q2⟩
        refine ⟨q1, fun i hi => ?_⟩
        rw [q2 i _ (List.getElem?_eq_getElem hi), List.getD_eq_getElem?_getD, List.getElem?_eq_getElem hi]
        rfl
    rw [he, key.2 hJ]
  have y13 := HWa.c 13 (.slice m.gp m.gn m.gc) rfl
  clear HSv rowa nila hba HW7 HB7 hJ HSg
  go_upto_region 8 with (go_at_call 31; refine HC31.out.mono ?_; rintro eb wb ⟨rfl, hgb⟩)
  have hbb : Below wa.heap.size wa wb := Sx.below_grown (Below.refl _ _) hgb (Nat.le_refl _) (by simp)
  have HWb := HWa.below hbb
  have HBb : Hid (Below w.heap.size w wb) := HBa.out.trans (hbb.mono HBa.out.size)
  clear HWa HBa hgb hbb y13 HC31
  obtain ⟨xx, HHx⟩ := HH.out wb
  have HX : Hid (Calls Try.prog 40 #[.int .u64 (N : Nat), .agg (roM m)] wb fun e w' => Hid (e = .returned (.tuple #[.int .u64 xx, .int .u64 (M : Int)]) ∧ Below wb.heap.size wb w')) := HHx
  clear HHx HH
  go_upto_region 9 with (first | (go_at_call 40; refine HX.out.mono ?_; intro ec wc hhc; obtain ⟨hec, hbc⟩ := hhc.out; subst hec) | (refine wpList_load_mid (by rfl) 33 (.tmp 3) (by rfl) (w.heap.size + 1) 0 (by rfl) (roM m).toList _ HWb.range Try.underlying33 rfl (by kernel_rfl) ?_))
  have HWc := HWb.below hbc
  have HBc : Hid (Below w.heap.size w wc) := HBb.out.trans (hbc.mono HBb.out.size)
  have r9 : wc.cell? ⟨w.heap.size + 1, 9, none⟩ = some (.bool true) := by have q := HWc.r 9 (.bool m.act) rfl; rw [hact.out] at q; exact q
  have r10 := HWc.r 10 (.int .u64 m.cnt) rfl
  have r11 := HWc.r 11 (.string m.sum) rfl
  clear HWb HWc HBb hbc hhc HX
  by_cases m0 : 0 < M
  · have d0 : decide ((0 : Int) < (M : Int)) = true := by simp; omega
    have d0' : decide (0 < M) = true := by simp; omega
    by_cases m1 : m.cnt = (M : Int)
    · have q1 : (m.cnt == (M : Int)) = true := by simp [m1]
      have HF : Hid ((decide (0 < M) && decide (m.cnt = (M : Int)) && decide (m.sum.size = 32)) = ((m.sum.size : Int) == 32)) := by
        show _ = _
        rw [d0', decide_eq_true m1]
        by_cases h : m.sum.size = 32
        · simp [h]
        · have : ((m.sum.size : Int) == 32) = false := by simp; omega
          simp [h, this]
      clear m1
      go_wp2
      go_ret
      exact ⟨congrArg (fun b => Ending.returned (Value.bool b)) HF.out.symm, HBc.out⟩
    · have q1 : (m.cnt == (M : Int)) = false := by simp [m1]
      have HF : Hid ((decide (0 < M) && decide (m.cnt = (M : Int)) && decide (m.sum.size = 32)) = false) := by show _ = _; simp [m1]
      clear m1
      go_wp2
      go_ret
      exact ⟨congrArg (fun b => Ending.returned (Value.bool b)) HF.out.symm, HBc.out⟩
  · have d0 : decide ((0 : Int) < (M : Int)) = false := by simp; omega
    have d0' : decide (0 < M) = false := by simp; omega
    have HF : Hid ((decide (0 < M) && decide (m.cnt = (M : Int)) && decide (m.sum.size = 32)) = false) := by show _ = _; simp [d0']
    go_wp2
    go_ret
    exact ⟨congrArg (fun b => Ending.returned (Value.bool b)) HF.out.symm, HBc.out⟩
end Go.Proofs.Ytmfnhdflmnmooaa
