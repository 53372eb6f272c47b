import Derived.Test.YtmfnhdflmnmooaaPart05
import Derived.Deep.MidRow
import Derived.Test.YtmfnhdflmnmooaaPart01
import Derived.Laws.AppendOwnNone
import Derived.Deep.DeepMust
import Derived.Test.YtmfnhdflmnmooaaPart03
import Derived.Test.YtmfnhdflmnmooaaPart02
import Derived.Deep.Cut
namespace Go.Proofs.Ytmfnhdflmnmooaa
open Go.RowKit
set_option linter.unusedVariables false
set_option linter.unusedSimpArgs false
/-- Metadata as they lie. -/
structure MetaOk (w : World) (m : Mt) (hot : Nat) (EL : List Epo) (f : Nat → Int × Int × Int) : Prop where
  hC : 0 ≤ m.C
  hC9 : m.C ≤ 18446744073709551615
  hh : m.hot = (hot : Int)
  hz : m.az ≤ 9223372036854775807
  hsz : m.sum.size ≤ 9223372036854775807
  hc1 : m.gn ≤ m.gc
  hc2 : m.gc ≤ 9223372036854775807
  hgn : m.gn ≤ 1000000000000000
  hen : EL.length = m.en
  hn0 : m.en ≤ 1954687338268
  e1 : RV epoL 5 w m.ep EL
  hSg : SegV w (.slice m.gp m.gn m.gc) m.gn f
theorem MetaOk.below {w w' : World} {m : Mt} {hot : Nat} {EL : List Epo} {f : Nat → Int × Int × Int} (h : MetaOk w m hot EL f) (hb : Below w.heap.size w w') : MetaOk w' m hot EL f := ⟨h.hC, h.hC9, h.hh, h.hz, h.hsz, h.hc1, h.hc2, h.hgn, h.hen, h.hn0, h.e1.below hb, h.hSg.below hb⟩
/-- The data's sectors. -/
def secs (m : Mt) : Nat := (m.C - (2 * m.H + m.K) / m.U).toNat
/-- Can metadata be worked on? -/
def WorkP (m : Mt) (hot : Nat) (EL : List Epo) (f : Nat → Int × Int × Int) : Prop :=
  mayB m.U m.C m.H m.K = true ∧ areaB m.U m.H m.K m.ao m.az m.mode hot = true ∧ m.done ≤ secs m ∧ stepB m hot (secs m) = true ∧ JustP m.gn f (Sx.kept [Sx.segX (secs m) (rM m), Sx.segY (secs m) (rM m)]) ∧ m.fr < m.to ∧ epN EL m.fr m.en = 1 ∧ epN EL m.to m.en = 1
theorem secs_of {m : Mt} (hm : mayB m.U m.C m.H m.K = true) : m.C - (2 * m.H + m.K) / m.U = (secs m : Nat) ∧ 1 ≤ secs m ∧ secs m ≤ 4294967296 := by
  obtain ⟨hu, hh, k1, k2, _, hc, hlt⟩ := mayB_all hm
  have hr := headB_range hh
  unfold secs
  rcases unitB_cases hu with h | h | h | h <;> rw [h] at hlt ⊢ <;> omega
theorem work_ok (m : Mt) (hot : Nat) (EL : List Epo) (f : Nat → Int × Int × Int) (w : World) (h : MetaOk w m hot EL f) : Calls Try.prog 37 #[.agg (mtC m)] w fun e w' => ∃ b : Bool, e = .returned (.bool b) ∧ (b = true ↔ WorkP m hot EL f) ∧ Below w.heap.size w w' := by
  by_cases hm : mayB m.U m.C m.H m.K = true
  · obtain ⟨n1, n2, n3⟩ := secs_of hm
    by_cases ha : areaB m.U m.H m.K m.ao m.az m.mode hot = true
    · by_cases hd : m.done ≤ secs m
      · by_cases hst : stepB m hot (secs m) = true
        · by_cases hJ : JustP m.gn f (Sx.kept [Sx.segX (secs m) (rM m), Sx.segY (secs m) (rM m)])
          · by_cases hft : m.fr < m.to
            · by_cases hef : epN EL m.fr m.en = 1
              · refine (work_7 m h.hC w hot (secs m) EL f h.hh h.hz n1 n3 h.hsz h.hc1 h.hc2 h.hen h.hn0 h.e1 h.hSg hm ha hd hst hJ hft hef).mono ?_
                rintro e w' ⟨he, hb⟩
                exact ⟨_, he, by rw [decide_eq_true_iff]; exact ⟨fun q => ⟨hm, ha, hd, hst, hJ, hft, hef, q⟩, fun q => q.2.2.2.2.2.2.2⟩, hb⟩
              · refine (work_6 m h.hC w hot (secs m) EL f h.hh h.hz n1 n3 h.hsz h.hc1 h.hc2 h.hen h.hn0 h.e1 h.hSg hm ha hd hst hJ hft hef).mono ?_
                rintro e w' ⟨he, hb⟩
                exact ⟨false, he, ⟨(fun q => by cases q), fun q => absurd q.2.2.2.2.2.2.1 hef⟩, hb⟩
            · refine (work_5 m h.hC w hot (secs m) EL f h.hh h.hz n1 n3 h.hsz h.hc1 h.hc2 h.hen h.hn0 h.e1 h.hSg hm ha hd hst hJ hft).mono ?_
              rintro e w' ⟨he, hb⟩
              exact ⟨false, he, ⟨(fun q => by cases q), fun q => absurd q.2.2.2.2.2.1 hft⟩, hb⟩
          · refine (work_4 m h.hC w hot (secs m) EL f h.hh h.hz n1 n3 h.hsz h.hc1 h.hc2 h.hen h.hn0 h.e1 h.hSg hm ha hd hst hJ).mono ?_
            rintro e w' ⟨he, hb⟩
            exact ⟨false, he, ⟨(fun q => by cases q), fun q => absurd q.2.2.2.2.1 hJ⟩, hb⟩
        · refine (work_3 m h.hC w hot (secs m) EL f h.hh h.hz n1 n3 h.hsz h.hc1 h.hc2 h.hen h.hn0 h.e1 h.hSg hm ha hd hst).mono ?_
          rintro e w' ⟨he, hb⟩
          exact ⟨false, he, ⟨(fun q => by cases q), fun q => absurd q.2.2.2.1 hst⟩, hb⟩
      · refine (work_2 m h.hC w hot (secs m) EL f h.hh h.hz n1 n3 h.hsz h.hc1 h.hc2 h.hen h.hn0 h.e1 h.hSg hm ha hd).mono ?_
        rintro e w' ⟨he, hb⟩
        exact ⟨false, he, ⟨(fun q => by cases q), fun q => absurd q.2.2.1 hd⟩, hb⟩
    · refine (work_1 m h.hC w hot h.hh h.hz hm (by simpa using ha)).mono ?_
      rintro e w' ⟨he, hb⟩
      exact ⟨false, he, ⟨(fun q => by cases q), fun q => absurd q.2.1 ha⟩, hb⟩
  · refine (work_0 m h.hC w (by simpa using hm)).mono ?_
    rintro e w' ⟨he, hb⟩
    exact ⟨false, he, ⟨(fun q => by cases q), fun q => absurd q.1 hm⟩, hb⟩
theorem rwork_ok (m : Mt) (hot : Nat) (EL : List Epo) (f : Nat → Int × Int × Int) (w : World) (h : MetaOk w m hot EL f) (hon : m.on = true) : Calls Try.prog 39 #[.agg (mtC m)] w fun e w' => ∃ b : Bool, e = .returned (.bool b) ∧ (b = true ↔ WorkP m hot EL f) ∧ Below w.heap.size w w' := by
  have hn15 : m.en ≤ 1000000000000000 := Nat.le_trans h.hn0 (by omega)
  by_cases hm : mayB m.U m.C m.H m.K = true
  · obtain ⟨n1, n2, n3⟩ := secs_of hm
    by_cases ha : areaB m.U m.H m.K m.ao m.az m.mode hot = true
    · by_cases hft : m.fr < m.to
      · by_cases hef : epN EL m.fr m.en = 1
        · by_cases het : epN EL m.to m.en = 1
          · by_cases hd : m.done ≤ secs m
            · by_cases hJ : JustP m.gn f (Sx.kept [Sx.segX (secs m) (rM m), Sx.segY (secs m) (rM m)])
              · have fin : ∀ b : Bool, b = stepB m hot (secs m) → (b = true ↔ WorkP m hot EL f) := fun b hb => by
                  rw [hb]
                  exact ⟨fun q => ⟨hm, ha, hd, q, hJ, hft, hef, het⟩, fun q => q.2.2.2.1⟩
                cases hact : m.act
                · refine (rwork_7 m h.hC w h.hC9 hon hact hot (secs m) EL f h.hh h.hz n1 n2 n3 h.hsz h.hgn h.hen hn15 h.e1 h.hSg hm ha hft hef het hd hJ).mono ?_
                  rintro e w' ⟨he, hb⟩
                  exact ⟨_, he, fin _ rfl, hb⟩
                · refine (rwork_8 m h.hC w h.hC9 hon hact hot (secs m) EL f h.hh h.hz n1 n2 n3 h.hsz h.hgn h.hen hn15 h.e1 h.hSg hm ha hft hef het hd hJ).mono ?_
                  rintro e w' ⟨he, hb⟩
                  exact ⟨_, he, fin _ rfl, hb⟩
              · refine (rwork_6 m h.hC w h.hC9 hon hot (secs m) EL f h.hh h.hz n1 n2 n3 h.hsz h.hgn h.hen hn15 h.e1 h.hSg hm ha hft hef het hd hJ).mono ?_
                rintro e w' ⟨he, hb⟩
                exact ⟨false, he, ⟨(fun q => by cases q), fun q => absurd q.2.2.2.2.1 hJ⟩, hb⟩
            · refine (rwork_5 m h.hC w h.hC9 hon hot (secs m) EL f h.hh h.hz n1 n2 n3 h.hsz h.hgn h.hen hn15 h.e1 h.hSg hm ha hft hef het hd).mono ?_
              rintro e w' ⟨he, hb⟩
              exact ⟨false, he, ⟨(fun q => by cases q), fun q => absurd q.2.2.1 hd⟩, hb⟩
          · refine (rwork_4 m h.hC w h.hC9 hon hot (secs m) EL f h.hh h.hz n1 n2 n3 h.hsz h.hgn h.hen hn15 h.e1 h.hSg hm ha hft hef het).mono ?_
            rintro e w' ⟨he, hb⟩
            exact ⟨false, he, ⟨(fun q => by cases q), fun q => absurd q.2.2.2.2.2.2.2 het⟩, hb⟩
        · refine (rwork_3 m h.hC w h.hC9 hon hot (secs m) EL f h.hh h.hz n1 n2 n3 h.hsz h.hgn h.hen hn15 h.e1 h.hSg hm ha hft hef).mono ?_
          rintro e w' ⟨he, hb⟩
          exact ⟨false, he, ⟨(fun q => by cases q), fun q => absurd q.2.2.2.2.2.2.1 hef⟩, hb⟩
      · refine (rwork_2 m h.hC w h.hC9 hon hot (secs m) EL f h.hh h.hz n1 n2 n3 h.hsz h.hgn h.hen hn15 h.e1 h.hSg hm ha hft).mono ?_
        rintro e w' ⟨he, hb⟩
        exact ⟨false, he, ⟨(fun q => by cases q), fun q => absurd q.2.2.2.2.2.1 hft⟩, hb⟩
    · refine (rwork_1 m h.hC w h.hC9 hot h.hh h.hz hm (by simpa using ha)).mono ?_
      rintro e w' ⟨he, hb⟩
      exact ⟨false, he, ⟨(fun q => by cases q), fun q => absurd q.2.1 ha⟩, hb⟩
  · refine (rwork_0 m h.hC w h.hC9 (by simpa using hm)).mono ?_
    rintro e w' ⟨he, hb⟩
    exact ⟨false, he, ⟨(fun q => by cases q), fun q => absurd q.1 hm⟩, hb⟩
/-- Next's answer: at, count, error. -/
def NextP (m : Mt) (hot : Nat) (EL : List Epo) (f : Nat → Int × Int × Int) (a n : Nat) (e : Int) : Prop :=
  (m.on = false ∧ a = 0 ∧ n = 0 ∧ e = 131) ∨ (m.on = true ∧ ¬ WorkP m hot EL f ∧ a = 0 ∧ n = 0 ∧ e = 2) ∨ (m.on = true ∧ WorkP m hot EL f ∧ a = (if m.back then secs m - m.done - min hot (secs m - m.done) else m.done) ∧ n = min hot (secs m - m.done) ∧ e = 0)
theorem NextP.one {m : Mt} {hot : Nat} {EL : List Epo} {f : Nat → Int × Int × Int} {a n a' n' : Nat} {e e' : Int} (h : NextP m hot EL f a n e) (k : NextP m hot EL f a' n' e') : a = a' ∧ n = n' ∧ e = e' := by
  rcases h with ⟨h1, h2, h3, h4⟩ | ⟨h1, h2, h3, h4, h5⟩ | ⟨h1, h2, h3, h4, h5⟩
  · rcases k with ⟨k1, k2, k3, k4⟩ | ⟨k1, _⟩ | ⟨k1, _⟩
    · exact ⟨h2.trans k2.symm, h3.trans k3.symm, h4.trans k4.symm⟩
    · rw [h1] at k1; cases k1
    · rw [h1] at k1; cases k1
  · rcases k with ⟨k1, _⟩ | ⟨k1, k2, k3, k4, k5⟩ | ⟨k1, k2, _⟩
    · rw [h1] at k1; cases k1
    · exact ⟨h3.trans k3.symm, h4.trans k4.symm, h5.trans k5.symm⟩
    · exact absurd k2 h2
  · rcases k with ⟨k1, _⟩ | ⟨k1, k2, _⟩ | ⟨k1, k2, k3, k4, k5⟩
    · rw [h1] at k1; cases k1
    · exact absurd h2 k2
    · exact ⟨h3.trans k3.symm, h4.trans k4.symm, h5.trans k5.symm⟩
theorem Bx.range {W : World} {b : Nat} {m : Mt} (h : Bx W b m) : W.rangeAt b 0 (mtC m).toList := fun j u hj => by
  rw [Nat.zero_add]
  exact h.c j u (by simpa using hj)
set_option maxHeartbeats 4000000 in
set_option maxRecDepth 100000 in
theorem next_off (m : Mt) (w : World) (hon : m.on = false) : Calls Try.prog 14 #[.agg (mtC m)] w fun e w' => Hid (e = .returned (.tuple #[.int .u64 (0 : Nat), .int .u64 (0 : Nat), .int .i64 131]) ∧ Below w.heap.size w w') := by
  have HX : Hid (Bx (w.alloc (.cells (mtC m) 36)) w.heap.size m ∧ Below w.heap.size w (w.alloc (.cells (mtC m) 36))) := ⟨World.alloc_heap_new w _, below_alloc1 _ _⟩
  have hon2 : Hid (m.on = false) := hon
  clear hon
  go_enter Try.func14, Try.ntmps14
  go_upto_region 1 with fail
  generalize (w.alloc (.cells (mtC m) 36)) = w0 at HX ⊢
  have y14 : w0.cell? ⟨w.heap.size, 14, none⟩ = some (.bool false) := by have q := HX.out.1.c 14 (.bool m.on) rfl; rw [hon2.out] at q; exact q
  go_wp2
  go_ret3
  exact ⟨rfl, HX.out.2⟩
set_option maxHeartbeats 4000000 in
set_option maxRecDepth 100000 in
theorem next_bad (m : Mt) (hot : Nat) (EL : List Epo) (f : Nat → Int × Int × Int) (w : World) (h : MetaOk w m hot EL f) (hon : m.on = true) (hw : ¬ WorkP m hot EL f) : Calls Try.prog 14 #[.agg (mtC m)] w fun e w' => Hid (e = .returned (.tuple #[.int .u64 (0 : Nat), .int .u64 (0 : Nat), .int .i64 2]) ∧ Below w.heap.size w w') := by
  have HX : Hid (Bx (w.alloc (.cells (mtC m) 36)) w.heap.size m ∧ Below w.heap.size w (w.alloc (.cells (mtC m) 36))) := ⟨World.alloc_heap_new w _, below_alloc1 _ _⟩
  have HC : Hid (Calls Try.prog 37 #[.agg (mtC m)] (w.alloc (.cells (mtC m) 36)) fun e w' => Hid (e = .returned (.bool false) ∧ Below (w.alloc (.cells (mtC m) 36)).heap.size (w.alloc (.cells (mtC m) 36)) w')) := by
    refine (work_ok m hot EL f (w.alloc (.cells (mtC m) 36)) (h.below (below_alloc1 _ _))).mono ?_
    rintro e w' ⟨b, he, hb, hB⟩
    refine ⟨?_, hB⟩
    cases b
    · exact he
    · exact absurd (hb.1 rfl) hw
  have hon2 : Hid (m.on = true) := hon
  clear hon h hw
  go_enter Try.func14, Try.ntmps14
  go_upto_region 1 with fail
  generalize (w.alloc (.cells (mtC m) 36)) = w0 at HX HC ⊢
  have y14 : w0.cell? ⟨w.heap.size, 14, none⟩ = some (.bool true) := by have q := HX.out.1.c 14 (.bool m.on) rfl; rw [hon2.out] at q; exact q
  go_wp2_with (first | (go_at_call 37; refine HC.out.mono ?_; intro e1 w1 hh; obtain ⟨he, hb1⟩ := hh.out; subst he) | (refine wpList_load_mid (by rfl) 36 (.tmp 1) (by rfl) w.heap.size 0 (by rfl) (mtC m).toList _ HX.out.1.range Try.underlying36 rfl (size36 m) ?_))
  go_ret3
  exact ⟨rfl, HX.out.2.trans (hb1.mono HX.out.2.size)⟩
set_option maxHeartbeats 4000000 in
set_option maxRecDepth 100000 in
theorem next_good (m : Mt) (hot : Nat) (EL : List Epo) (f : Nat → Int × Int × Int) (w : World) (h : MetaOk w m hot EL f) (hon : m.on = true) (hw : WorkP m hot EL f) : Calls Try.prog 14 #[.agg (mtC m)] w fun e w' => Hid (e = .returned (.tuple #[.int .u64 ((if m.back then secs m - m.done - min hot (secs m - m.done) else m.done : Nat) : Int), .int .u64 ((min hot (secs m - m.done) : Nat) : Int), .int .i64 0]) ∧ Below w.heap.size w w') := by
  have HX : Hid (Bx (w.alloc (.cells (mtC m) 36)) w.heap.size m ∧ Below w.heap.size w (w.alloc (.cells (mtC m) 36))) := ⟨World.alloc_heap_new w _, below_alloc1 _ _⟩
  have HC : Hid (Calls Try.prog 37 #[.agg (mtC m)] (w.alloc (.cells (mtC m) 36)) fun e w' => Hid (e = .returned (.bool true) ∧ Below (w.alloc (.cells (mtC m) 36)).heap.size (w.alloc (.cells (mtC m) 36)) w')) := by
    refine (work_ok m hot EL f (w.alloc (.cells (mtC m) 36)) (h.below (below_alloc1 _ _))).mono ?_
    rintro e w' ⟨b, he, hb, hB⟩
    refine ⟨?_, hB⟩
    rw [he, hb.2 hw]
  obtain ⟨n1, n2, n3⟩ := secs_of hw.1
  have hm := hw.1
  obtain ⟨qu, qh, k4, k2, _, qc, qlt⟩ := mayB_all hm
  have hr := headB_range qh
  have h1 : 0 ≤ m.H := by omega
  have h2 : m.H ≤ 4194304 := hr.2
  have k1 : 0 ≤ m.K := by omega
  have HSec : Hid (∀ u, Calls Try.prog 25 #[.agg #[.int .i64 m.U, .int .u64 m.C, .int .i64 m.H, .int .i64 m.K]] u fun e w' => Hid (e = .returned (.int .u64 (secs m : Nat)) ∧ Below u.heap.size u w')) := fun u => by
    have q := sectors_ok m.U m.C m.H m.K u qu h1 h2 k1 k2 (by omega) qc
    rw [n1] at q
    exact q
  have HHz : Hid (∀ u, Calls Try.prog 38 #[.int .u64 (secs m : Nat), .agg (roM m)] u fun e w' => Hid (e = .returned (.tuple #[.int .u64 ((if m.back then secs m - m.done - min hot (secs m - m.done) else m.done : Nat) : Int), .int .u64 ((min hot (secs m - m.done) : Nat) : Int)]) ∧ Below u.heap.size u w')) := fun u => by
    rw [show roM m = roA m.on m.fr m.to m.back m.mode hot m.done m.ao m.az m.act m.cnt m.sum by simp [roM, roA, h.hh]]
    exact hotz_ok m.on m.fr m.to m.back m.mode hot m.done m.ao m.az m.act m.cnt m.sum (secs m) n3 hw.2.2.1 u
  have hon2 : Hid (m.on = true) := hon
  generalize ((if m.back then secs m - m.done - min hot (secs m - m.done) else m.done : Nat) : Int) = aa at *
  generalize ((min hot (secs m - m.done) : Nat) : Int) = bb at *
  generalize secs m = N at *
  clear hon h hw hm qu qh qc qlt hr n1 n2 n3 h1 h2 k1 k2 k4
  go_enter Try.func14, Try.ntmps14
  go_upto_region 1 with fail
  generalize (w.alloc (.cells (mtC m) 36)) = wz at HX HC ⊢
  have y14 : wz.cell? ⟨w.heap.size, 14, none⟩ = some (.bool true) := by have q := HX.out.1.c 14 (.bool m.on) rfl; rw [hon2.out] at q; exact q
  go_upto_region 5 with (first | (go_at_call 37; refine HC.out.mono ?_; intro e1 w0 hh; obtain ⟨he, hb1⟩ := hh.out; subst he) | (refine wpList_load_mid (by rfl) 36 (.tmp 1) (by rfl) w.heap.size 0 (by rfl) (mtC m).toList _ HX.out.1.range Try.underlying36 rfl (size36 m) ?_))
  have HB0 : Hid (Bx w0 w.heap.size m ∧ Below w.heap.size w w0) := ⟨HX.out.1.below hb1, HX.out.2.trans (hb1.mono HX.out.2.size)⟩
  clear HX hb1 hh HC y14 hon2
  have hS0 : Below w0.heap.size w0 w0.drew := (Below.refl _ _).drew
  have hrr : ∀ u, Below w0.heap.size w0 u → u.rangeAt w.heap.size 14 (roM m).toList := fun u hu j v hj => (HB0.out.1.below hu).c (14 + j) v (by
    match j, hj with
    | 0, hj => exact hj
    | 1, hj => exact hj
    | 2, hj => exact hj
    | 3, hj => exact hj
    | 4, hj => exact hj
    | 5, hj => exact hj
    | 6, hj => exact hj
    | 7, hj => exact hj
    | 8, hj => exact hj
    | 9, hj => exact hj
    | 10, hj => exact hj
    | 11, hj => exact hj
    | n + 12, hj => simp at hj)
  have hrs : ∀ u, Below w0.heap.size w0 u → u.rangeAt w.heap.size 4 [.int .i64 m.U, .int .u64 m.C, .int .i64 m.H, .int .i64 m.K] := fun u hu j v hj => (HB0.out.1.below hu).c (4 + j) v (by
    match j, hj with
    | 0, hj => exact hj
    | 1, hj => exact hj
    | 2, hj => exact hj
    | 3, hj => exact hj
    | n + 4, hj => simp at hj)
  refine wp_region_noPanic ?_
  refine wp_region_held_drew (S := fun u => Below w0.heap.size w0 u) (by kernel_rfl) (hS0) (fun _ => ?_)
  refine takeH_at 0 17 (.pointer (some ⟨w.heap.size, 4, none⟩)) rfl rfl (by kernel_rfl) (by kernel_rfl) (by kernel_rfl) (fun _ _ _ h => h) (hS0) (Or.inl ⟨by kernel_rfl, fun w' hS' => by go_simp⟩) ?_
  simp only [List.setIfInBounds_toArray, List.set_cons_zero, List.set_cons_succ]
  refine takeH_at 1 18 (.agg #[.int .i64 m.U, .int .u64 m.C, .int .i64 m.H, .int .i64 m.K]) rfl rfl (by kernel_rfl) (by kernel_rfl) (by kernel_rfl) (fun _ _ _ h => h) (hS0) (yieldsIf_load_mid (by kernel_rfl) 24 (.tmp 17) rfl w.heap.size 4 rfl [.int .i64 m.U, .int .u64 m.C, .int .i64 m.H, .int .i64 m.K] _ hrs Try.underlying24 rfl (by kernel_rfl)) ?_
  simp only [List.setIfInBounds_toArray, List.set_cons_zero, List.set_cons_succ]
  refine takeH_at 3 20 (.pointer (some ⟨w.heap.size, 14, none⟩)) rfl rfl (by kernel_rfl) (by kernel_rfl) (by kernel_rfl) (fun _ _ _ h => h) (hS0) (Or.inl ⟨by kernel_rfl, fun w' hS' => by go_simp⟩) ?_
  simp only [List.setIfInBounds_toArray, List.set_cons_zero, List.set_cons_succ]
  refine takeH_at 4 21 (.agg (roM m)) rfl rfl (by kernel_rfl) (by kernel_rfl) (by kernel_rfl) (fun _ _ _ h => h) (hS0) (yieldsIf_load_mid (by kernel_rfl) 33 (.tmp 20) rfl w.heap.size 14 rfl (roM m).toList _ hrr Try.underlying33 rfl (by kernel_rfl)) ?_
  simp only [List.setIfInBounds_toArray, List.set_cons_zero, List.set_cons_succ]
  refine wpAnyH_ready (rs := [2]) (by kernel_rfl) (by simp) ?_
  refine AllReadyH.cons rfl (fun Kx hK => ?_) AllReadyH.nil
  go_simp
  refine (HSec.out _).mono ?_
  intro e1 q1 hh
  obtain ⟨he, hq1⟩ := hh.out
  subst he
  clear hh
  have hS1 : Below w0.heap.size w0 q1 := (hS0).trans (hq1.mono (hS0).size)
  go_wp2_with fail
  refine hK.out _ _ hS1 (fun _ => ?_)
  clear hK Kx
  try simp only [Act.put, List.setIfInBounds_toArray, List.set_cons_zero, List.set_cons_succ]
  refine wpAnyH_ready (rs := [5]) (by kernel_rfl) (by simp) ?_
  refine AllReadyH.cons rfl (fun Kx hK => ?_) AllReadyH.nil
  go_simp
  refine (HHz.out _).mono ?_
  intro e1 q2 hh
  obtain ⟨he, hq2⟩ := hh.out
  subst he
  clear hh
  have hS2 : Below w0.heap.size w0 q2 := (hS1).trans (hq2.mono (hS1).size)
  go_wp2_with fail
  refine hK.out _ _ hS2 (fun _ => ?_)
  clear hK Kx
  try simp only [Act.put, List.setIfInBounds_toArray, List.set_cons_zero, List.set_cons_succ]
  refine takeH_at 6 16 (.tuple #[.int .u64 aa, .int .u64 bb]) rfl rfl (by kernel_rfl) (by kernel_rfl) (by kernel_rfl) (fun _ _ _ h => h) (hS2) (Or.inl ⟨by kernel_rfl, fun w' hS' => by go_simp⟩) ?_
  simp only [List.setIfInBounds_toArray, List.set_cons_zero, List.set_cons_succ]
  refine takeH_at 7 23 (.int .u64 aa) rfl rfl (by kernel_rfl) (by kernel_rfl) (by kernel_rfl) (fun _ _ _ h => h) (hS2) (Or.inl ⟨by kernel_rfl, fun w' hS' => by go_simp⟩) ?_
  simp only [List.setIfInBounds_toArray, List.set_cons_zero, List.set_cons_succ]
  refine takeH_at 8 24 (.int .u64 bb) rfl rfl (by kernel_rfl) (by kernel_rfl) (by kernel_rfl) (fun _ _ _ h => h) (hS2) (Or.inl ⟨by kernel_rfl, fun w' hS' => by go_simp⟩) ?_
  simp only [List.setIfInBounds_toArray, List.set_cons_zero, List.set_cons_succ]
  refine takeH_at 9 5 (.int .u64 aa) rfl rfl (by kernel_rfl) (by kernel_rfl) (by kernel_rfl) (fun _ _ _ h => h) (hS2) (Or.inl ⟨by kernel_rfl, fun w' hS' => by go_simp⟩) ?_
  simp only [List.setIfInBounds_toArray, List.set_cons_zero, List.set_cons_succ]
  refine takeH_at 10 6 (.int .u64 bb) rfl rfl (by kernel_rfl) (by kernel_rfl) (by kernel_rfl) (fun _ _ _ h => h) (hS2) (Or.inl ⟨by kernel_rfl, fun w' hS' => by go_simp⟩) ?_
  simp only [List.setIfInBounds_toArray, List.set_cons_zero, List.set_cons_succ]
  refine wpAnyH_done (by kernel_rfl) ?_ _
  refine NoPanic.normal ?_
  go_wp2_with fail
  go_ret3
  exact ⟨rfl, HB0.out.2.trans (hS2.mono HB0.out.2.size)⟩
theorem next_ok (m : Mt) (hot : Nat) (EL : List Epo) (f : Nat → Int × Int × Int) (w : World) (h : MetaOk w m hot EL f) : Calls Try.prog 14 #[.agg (mtC m)] w fun e w' => ∃ (a n : Nat) (c : Int), e = .returned (.tuple #[.int .u64 (a : Nat), .int .u64 (n : Nat), .int .i64 c]) ∧ NextP m hot EL f a n c ∧ Below w.heap.size w w' := by
  cases hon : m.on
  · refine (next_off m w hon).mono ?_
    intro e w' hh
    exact ⟨0, 0, 131, hh.out.1, .inl ⟨hon, rfl, rfl, rfl⟩, hh.out.2⟩
  · by_cases hw : WorkP m hot EL f
    · refine (next_good m hot EL f w h hon hw).mono ?_
      intro e w' hh
      exact ⟨_, _, 0, hh.out.1, .inr (.inr ⟨hon, hw, rfl, rfl, rfl⟩), hh.out.2⟩
    · refine (next_bad m hot EL f w h hon hw).mono ?_
      intro e w' hh
      exact ⟨0, 0, 2, hh.out.1, .inr (.inl ⟨hon, hw, rfl, rfl, rfl⟩), hh.out.2⟩
set_option maxHeartbeats 4000000 in
set_option maxRecDepth 100000 in
theorem rnext_off (m : Mt) (w : World) (hon : m.on = false) : Calls Try.prog 15 #[.agg (mtC m)] w fun e w' => Hid (e = .returned (.tuple #[.int .u64 (0 : Nat), .int .u64 (0 : Nat), .int .i64 131]) ∧ Below w.heap.size w w') := by
  have HX : Hid (Bx (w.alloc (.cells (mtC m) 36)) w.heap.size m ∧ Below w.heap.size w (w.alloc (.cells (mtC m) 36))) := ⟨World.alloc_heap_new w _, below_alloc1 _ _⟩
  have hon2 : Hid (m.on = false) := hon
  clear hon
  go_enter Try.func15, Try.ntmps15
  go_upto_region 1 with fail
  generalize (w.alloc (.cells (mtC m) 36)) = w0 at HX ⊢
  have y14 : w0.cell? ⟨w.heap.size, 14, none⟩ = some (.bool false) := by have q := HX.out.1.c 14 (.bool m.on) rfl; rw [hon2.out] at q; exact q
  go_wp2
  go_ret3
  exact ⟨rfl, HX.out.2⟩
set_option maxHeartbeats 4000000 in
set_option maxRecDepth 100000 in
theorem rnext_bad (m : Mt) (hot : Nat) (EL : List Epo) (f : Nat → Int × Int × Int) (w : World) (h : MetaOk w m hot EL f) (hon : m.on = true) (hw : ¬ WorkP m hot EL f) : Calls Try.prog 15 #[.agg (mtC m)] w fun e w' => Hid (e = .returned (.tuple #[.int .u64 (0 : Nat), .int .u64 (0 : Nat), .int .i64 2]) ∧ Below w.heap.size w w') := by
  have HX : Hid (Bx (w.alloc (.cells (mtC m) 36)) w.heap.size m ∧ Below w.heap.size w (w.alloc (.cells (mtC m) 36))) := ⟨World.alloc_heap_new w _, below_alloc1 _ _⟩
  have HC : Hid (Calls Try.prog 39 #[.agg (mtC m)] (w.alloc (.cells (mtC m) 36)) fun e w' => Hid (e = .returned (.bool false) ∧ Below (w.alloc (.cells (mtC m) 36)).heap.size (w.alloc (.cells (mtC m) 36)) w')) := by
    refine (rwork_ok m hot EL f (w.alloc (.cells (mtC m) 36)) (h.below (below_alloc1 _ _)) hon).mono ?_
    rintro e w' ⟨b, he, hb, hB⟩
    refine ⟨?_, hB⟩
    cases b
    · exact he
    · exact absurd (hb.1 rfl) hw
  have hon2 : Hid (m.on = true) := hon
  clear hon h hw
  go_enter Try.func15, Try.ntmps15
  go_upto_region 1 with fail
  generalize (w.alloc (.cells (mtC m) 36)) = w0 at HX HC ⊢
  have y14 : w0.cell? ⟨w.heap.size, 14, none⟩ = some (.bool true) := by have q := HX.out.1.c 14 (.bool m.on) rfl; rw [hon2.out] at q; exact q
  go_wp2_with (first | (go_at_call 39; refine HC.out.mono ?_; intro e1 w1 hh; obtain ⟨he, hb1⟩ := hh.out; subst he) | (refine wpList_load_mid (by rfl) 36 (.tmp 1) (by rfl) w.heap.size 0 (by rfl) (mtC m).toList _ HX.out.1.range Try.underlying36 rfl (size36 m) ?_))
  go_ret3
  exact ⟨rfl, HX.out.2.trans (hb1.mono HX.out.2.size)⟩
set_option maxHeartbeats 4000000 in
set_option maxRecDepth 100000 in
theorem rnext_good (m : Mt) (hot : Nat) (EL : List Epo) (f : Nat → Int × Int × Int) (w : World) (h : MetaOk w m hot EL f) (hon : m.on = true) (hw : WorkP m hot EL f) : Calls Try.prog 15 #[.agg (mtC m)] w fun e w' => Hid (e = .returned (.tuple #[.int .u64 ((if m.back then secs m - m.done - min hot (secs m - m.done) else m.done : Nat) : Int), .int .u64 ((min hot (secs m - m.done) : Nat) : Int), .int .i64 0]) ∧ Below w.heap.size w w') := by
  have HX : Hid (Bx (w.alloc (.cells (mtC m) 36)) w.heap.size m ∧ Below w.heap.size w (w.alloc (.cells (mtC m) 36))) := ⟨World.alloc_heap_new w _, below_alloc1 _ _⟩
  have HC : Hid (Calls Try.prog 39 #[.agg (mtC m)] (w.alloc (.cells (mtC m) 36)) fun e w' => Hid (e = .returned (.bool true) ∧ Below (w.alloc (.cells (mtC m) 36)).heap.size (w.alloc (.cells (mtC m) 36)) w')) := by
    refine (rwork_ok m hot EL f (w.alloc (.cells (mtC m) 36)) (h.below (below_alloc1 _ _)) hon).mono ?_
    rintro e w' ⟨b, he, hb, hB⟩
    refine ⟨?_, hB⟩
    rw [he, hb.2 hw]
  obtain ⟨n1, n2, n3⟩ := secs_of hw.1
  have hm := hw.1
  obtain ⟨qu, qh, k4, k2, _, qc, qlt⟩ := mayB_all hm
  have hr := headB_range qh
  have h1 : 0 ≤ m.H := by omega
  have h2 : m.H ≤ 4194304 := hr.2
  have k1 : 0 ≤ m.K := by omega
  have HSec : Hid (∀ u, Calls Try.prog 28 #[.agg #[.int .i64 m.U, .int .u64 m.C, .int .i64 m.H, .int .i64 m.K]] u fun e w' => Hid (e = .returned (.int .u64 (secs m : Nat)) ∧ Below u.heap.size u w')) := fun u => by
    have q := rsize_ok m.U m.C m.H m.K u qu h1 h2 k1 k2 (by omega) qc
    rw [n1] at q
    exact q
  have HHz : Hid (∀ u, Calls Try.prog 40 #[.int .u64 (secs m : Nat), .agg (roM m)] u fun e w' => Hid (e = .returned (.tuple #[.int .u64 ((if m.back then secs m - m.done - min hot (secs m - m.done) else m.done : Nat) : Int), .int .u64 ((min hot (secs m - m.done) : Nat) : Int)]) ∧ Below u.heap.size u w')) := fun u => by
    rw [show roM m = roA m.on m.fr m.to m.back m.mode hot m.done m.ao m.az m.act m.cnt m.sum by simp [roM, roA, h.hh]]
    exact rhotz_ok m.on m.fr m.to m.back m.mode hot m.done m.ao m.az m.act m.cnt m.sum (secs m) n3 hw.2.2.1 u
  have hon2 : Hid (m.on = true) := hon
  generalize ((if m.back then secs m - m.done - min hot (secs m - m.done) else m.done : Nat) : Int) = aa at *
  generalize ((min hot (secs m - m.done) : Nat) : Int) = bb at *
  generalize secs m = N at *
  clear hon h hw hm qu qh qc qlt hr n1 n2 n3 h1 h2 k1 k2 k4
  go_enter Try.func15, Try.ntmps15
  go_upto_region 1 with fail
  generalize (w.alloc (.cells (mtC m) 36)) = wz at HX HC ⊢
  have y14 : wz.cell? ⟨w.heap.size, 14, none⟩ = some (.bool true) := by have q := HX.out.1.c 14 (.bool m.on) rfl; rw [hon2.out] at q; exact q
  go_upto_region 5 with (first | (go_at_call 39; refine HC.out.mono ?_; intro e1 w0 hh; obtain ⟨he, hb1⟩ := hh.out; subst he) | (refine wpList_load_mid (by rfl) 36 (.tmp 1) (by rfl) w.heap.size 0 (by rfl) (mtC m).toList _ HX.out.1.range Try.underlying36 rfl (size36 m) ?_))
  have HB0 : Hid (Bx w0 w.heap.size m ∧ Below w.heap.size w w0) := ⟨HX.out.1.below hb1, HX.out.2.trans (hb1.mono HX.out.2.size)⟩
  clear HX hb1 hh HC y14 hon2
  have hS0 : Below w0.heap.size w0 w0.drew := (Below.refl _ _).drew
  have hrr : ∀ u, Below w0.heap.size w0 u → u.rangeAt w.heap.size 14 (roM m).toList := fun u hu j v hj => (HB0.out.1.below hu).c (14 + j) v (by
    match j, hj with
    | 0, hj => exact hj
    | 1, hj => exact hj
    | 2, hj => exact hj
    | 3, hj => exact hj
    | 4, hj => exact hj
    | 5, hj => exact hj
    | 6, hj => exact hj
    | 7, hj => exact hj
    | 8, hj => exact hj
    | 9, hj => exact hj
    | 10, hj => exact hj
    | 11, hj => exact hj
    | n + 12, hj => simp at hj)
  have hrs : ∀ u, Below w0.heap.size w0 u → u.rangeAt w.heap.size 4 [.int .i64 m.U, .int .u64 m.C, .int .i64 m.H, .int .i64 m.K] := fun u hu j v hj => (HB0.out.1.below hu).c (4 + j) v (by
    match j, hj with
    | 0, hj => exact hj
    | 1, hj => exact hj
    | 2, hj => exact hj
    | 3, hj => exact hj
    | n + 4, hj => simp at hj)
  refine wp_region_noPanic ?_
  refine wp_region_held_drew (S := fun u => Below w0.heap.size w0 u) (by kernel_rfl) (hS0) (fun _ => ?_)
  refine takeH_at 0 15 (.pointer (some ⟨w.heap.size, 4, none⟩)) rfl rfl (by kernel_rfl) (by kernel_rfl) (by kernel_rfl) (fun _ _ _ h => h) (hS0) (Or.inl ⟨by kernel_rfl, fun w' hS' => by go_simp⟩) ?_
  simp only [List.setIfInBounds_toArray, List.set_cons_zero, List.set_cons_succ]
  refine takeH_at 1 16 (.agg #[.int .i64 m.U, .int .u64 m.C, .int .i64 m.H, .int .i64 m.K]) rfl rfl (by kernel_rfl) (by kernel_rfl) (by kernel_rfl) (fun _ _ _ h => h) (hS0) (yieldsIf_load_mid (by kernel_rfl) 24 (.tmp 15) rfl w.heap.size 4 rfl [.int .i64 m.U, .int .u64 m.C, .int .i64 m.H, .int .i64 m.K] _ hrs Try.underlying24 rfl (by kernel_rfl)) ?_
  simp only [List.setIfInBounds_toArray, List.set_cons_zero, List.set_cons_succ]
  refine takeH_at 3 18 (.pointer (some ⟨w.heap.size, 14, none⟩)) rfl rfl (by kernel_rfl) (by kernel_rfl) (by kernel_rfl) (fun _ _ _ h => h) (hS0) (Or.inl ⟨by kernel_rfl, fun w' hS' => by go_simp⟩) ?_
  simp only [List.setIfInBounds_toArray, List.set_cons_zero, List.set_cons_succ]
  refine takeH_at 4 19 (.agg (roM m)) rfl rfl (by kernel_rfl) (by kernel_rfl) (by kernel_rfl) (fun _ _ _ h => h) (hS0) (yieldsIf_load_mid (by kernel_rfl) 33 (.tmp 18) rfl w.heap.size 14 rfl (roM m).toList _ hrr Try.underlying33 rfl (by kernel_rfl)) ?_
  simp only [List.setIfInBounds_toArray, List.set_cons_zero, List.set_cons_succ]
  refine wpAnyH_ready (rs := [2]) (by kernel_rfl) (by simp) ?_
  refine AllReadyH.cons rfl (fun Kx hK => ?_) AllReadyH.nil
  go_simp
  refine (HSec.out _).mono ?_
  intro e1 q1 hh
  obtain ⟨he, hq1⟩ := hh.out
  subst he
  clear hh
  have hS1 : Below w0.heap.size w0 q1 := (hS0).trans (hq1.mono (hS0).size)
  go_wp2_with fail
  refine hK.out _ _ hS1 (fun _ => ?_)
  clear hK Kx
  try simp only [Act.put, List.setIfInBounds_toArray, List.set_cons_zero, List.set_cons_succ]
  refine wpAnyH_ready (rs := [5]) (by kernel_rfl) (by simp) ?_
  refine AllReadyH.cons rfl (fun Kx hK => ?_) AllReadyH.nil
  go_simp
  refine (HHz.out _).mono ?_
  intro e1 q2 hh
  obtain ⟨he, hq2⟩ := hh.out
  subst he
  clear hh
  have hS2 : Below w0.heap.size w0 q2 := (hS1).trans (hq2.mono (hS1).size)
  go_wp2_with fail
  refine hK.out _ _ hS2 (fun _ => ?_)
  clear hK Kx
  try simp only [Act.put, List.setIfInBounds_toArray, List.set_cons_zero, List.set_cons_succ]
  refine takeH_at 6 14 (.tuple #[.int .u64 aa, .int .u64 bb]) rfl rfl (by kernel_rfl) (by kernel_rfl) (by kernel_rfl) (fun _ _ _ h => h) (hS2) (Or.inl ⟨by kernel_rfl, fun w' hS' => by go_simp⟩) ?_
  simp only [List.setIfInBounds_toArray, List.set_cons_zero, List.set_cons_succ]
  refine takeH_at 7 21 (.int .u64 aa) rfl rfl (by kernel_rfl) (by kernel_rfl) (by kernel_rfl) (fun _ _ _ h => h) (hS2) (Or.inl ⟨by kernel_rfl, fun w' hS' => by go_simp⟩) ?_
  simp only [List.setIfInBounds_toArray, List.set_cons_zero, List.set_cons_succ]
  refine takeH_at 8 22 (.int .u64 bb) rfl rfl (by kernel_rfl) (by kernel_rfl) (by kernel_rfl) (fun _ _ _ h => h) (hS2) (Or.inl ⟨by kernel_rfl, fun w' hS' => by go_simp⟩) ?_
  simp only [List.setIfInBounds_toArray, List.set_cons_zero, List.set_cons_succ]
  refine takeH_at 9 5 (.int .u64 aa) rfl rfl (by kernel_rfl) (by kernel_rfl) (by kernel_rfl) (fun _ _ _ h => h) (hS2) (Or.inl ⟨by kernel_rfl, fun w' hS' => by go_simp⟩) ?_
  simp only [List.setIfInBounds_toArray, List.set_cons_zero, List.set_cons_succ]
  refine takeH_at 10 6 (.int .u64 bb) rfl rfl (by kernel_rfl) (by kernel_rfl) (by kernel_rfl) (fun _ _ _ h => h) (hS2) (Or.inl ⟨by kernel_rfl, fun w' hS' => by go_simp⟩) ?_
  simp only [List.setIfInBounds_toArray, List.set_cons_zero, List.set_cons_succ]
  refine wpAnyH_done (by kernel_rfl) ?_ _
  refine NoPanic.normal ?_
  go_wp2_with fail
  go_ret3
  exact ⟨rfl, HB0.out.2.trans (hS2.mono HB0.out.2.size)⟩
theorem rnext_ok (m : Mt) (hot : Nat) (EL : List Epo) (f : Nat → Int × Int × Int) (w : World) (h : MetaOk w m hot EL f) : Calls Try.prog 15 #[.agg (mtC m)] w fun e w' => ∃ (a n : Nat) (c : Int), e = .returned (.tuple #[.int .u64 (a : Nat), .int .u64 (n : Nat), .int .i64 c]) ∧ NextP m hot EL f a n c ∧ Below w.heap.size w w' := by
  cases hon : m.on
  · refine (rnext_off m w hon).mono ?_
    intro e w' hh
    exact ⟨0, 0, 131, hh.out.1, .inl ⟨hon, rfl, rfl, rfl⟩, hh.out.2⟩
  · by_cases hw : WorkP m hot EL f
    · refine (rnext_good m hot EL f w h hon hw).mono ?_
      intro e w' hh
      exact ⟨_, _, 0, hh.out.1, .inr (.inr ⟨hon, hw, rfl, rfl, rfl⟩), hh.out.2⟩
    · refine (rnext_bad m hot EL f w h hon hw).mono ?_
      intro e w' hh
      exact ⟨0, 0, 2, hh.out.1, .inr (.inl ⟨hon, hw, rfl, rfl, rfl⟩), hh.out.2⟩
end Go.Proofs.Ytmfnhdflmnmooaa
namespace Go.Proofs.Ytmfnhdflmnmooaa
open Go.RowKit
set_option linter.unusedVariables false
set_option linter.unusedSimpArgs false
abbrev epA (x : Epo) : Array Value := #[.int .u64 x.n, .string x.a, .string x.b, .string x.c, .string x.d]
set_option maxHeartbeats 1600000 in
set_option maxRecDepth 100000 in
theorem newer_ok (x t : Epo) (g : Nat) (w : World) (hc : w.cell? ⟨g, 0, none⟩ = some (.int .u64 t.n)) : Calls Try.prog 46 #[.agg (epA x), .pointer (some ⟨g, 0, none⟩)] w fun e w' => Hid (e = .returned (.bool (decide (t.n ≤ x.n))) ∧ Below w.heap.size w w') := by
  have HA : Hid (Below w.heap.size w (w.alloc (.cells (epA x) 38)) ∧ (w.alloc (.cells (epA x) 38)).cell? ⟨w.heap.size, 0, none⟩ = some (.int .u64 x.n) ∧ (w.alloc (.cells (epA x) 38)).cell? ⟨g, 0, none⟩ = some (.int .u64 t.n)) := ⟨below_alloc1 _ _, rangeAt_new w _ 38 0 _ rfl, cell_below (below_alloc1 _ _) hc⟩
  clear hc
  go_enter Try.func46, Try.ntmps46
  go_upto_region 1 with fail
  generalize w.alloc (.cells (epA x) 38) = w0 at HA ⊢
  obtain ⟨_, c0, c1⟩ := HA.out
  go_wp2
  go_ret
  exact ⟨rfl, HA.out.1⟩
/-- Is there an epoch of that number or above among the first k? -/
def hasB (EL : List Epo) (t : Int) (k : Nat) : Prop := ∃ (i : Nat) (x : Epo), i < k ∧ EL[i]? = some x ∧ t ≤ x.n
set_option maxHeartbeats 1600000 in
set_option maxRecDepth 100000 in
theorem index_ok (p : Option Addr) (n c : Nat) (EL : List Epo) (t : Epo) (g : Nat) (hen : Hid (EL.length = n)) (hn0 : n ≤ 1000000000000000) (w : World) (e1 : Hid (RV epoL 5 w p EL)) (hc : Hid (w.cell? ⟨g, 0, none⟩ = some (.int .u64 t.n))) : Calls Try.prog 66 #[.slice p n c, .func (.func 46) #[] #[.pointer (some ⟨g, 0, none⟩)]] w fun e w' => Hid ((∃ z : Int, e = .returned (.int .i64 z) ∧ (0 ≤ z ↔ hasB EL t.n n) ∧ (z = -1 ∨ (0 ≤ z ∧ z ≤ 1000000000000000))) ∧ Below w.heap.size w w') := by
  go_enter Try.func66, Try.ntmps66
  go_wp2
  go_loopw [8] (fun i wr => ∃ k : Nat, k ≤ n ∧ i = .int .i64 k ∧ Hid (¬ hasB EL t.n k ∧ Below w.heap.size w wr)) (fun i _ => n - (intOf i).toNat)
  case atStart => exact ⟨0, Nat.zero_le _, rfl, fun ⟨i, x, h, _⟩ => by omega, Below.refl _ _⟩
  case round =>
    obtain ⟨k, hk, rfl, HB⟩ := hrel
    by_cases hlt : k < n
    · obtain ⟨x, hx⟩ : ∃ x, EL[k]? = some x := ⟨EL[k]'(by have := hen.out; omega), List.getElem?_eq_getElem _⟩
      obtain ⟨ba, oa, hpa, hba, ca⟩ := (e1.out.below HB.out.2).get hx
      subst hpa
      have a0 : wr.cell? ⟨ba, oa + k * 5, none⟩ = some (.int .u64 x.n) := by have := ca 0 _ rfl; simpa using this
      have a1 : wr.cell? ⟨ba, oa + k * 5 + 1, none⟩ = some (.string x.a) := by have := ca 1 _ rfl; simpa using this
      have a2 : wr.cell? ⟨ba, oa + k * 5 + 2, none⟩ = some (.string x.b) := by have := ca 2 _ rfl; simpa using this
      have a3 : wr.cell? ⟨ba, oa + k * 5 + 3, none⟩ = some (.string x.c) := by have := ca 3 _ rfl; simpa using this
      have a4 : wr.cell? ⟨ba, oa + k * 5 + 4, none⟩ = some (.string x.d) := by have := ca 4 _ rfl; simpa using this
      by_cases hq : t.n ≤ x.n
      · have HN : Hid (hasB EL t.n n) := ⟨k, x, hlt, hx, hq⟩
        have HC : Hid (Calls Try.prog 46 #[.agg (epA x), .pointer (some ⟨g, 0, none⟩)] wr fun e w' => Hid (e = .returned (.bool true) ∧ Below wr.heap.size wr w')) := by
          have q := newer_ok x t g wr (cell_below HB.out.2 hc.out)
          rw [decide_eq_true hq] at q
          exact q
        clear hx ca hq
        go_wp2_with (go_at_call 46; refine HC.out.mono ?_; intro e5 w5 hh5; obtain ⟨he5, hb5⟩ := hh5.out; subst he5)
        go_ret
        exact ⟨⟨(k : Int), rfl, ⟨fun _ => HN.out, fun _ => by omega⟩, .inr ⟨by omega, by omega⟩⟩, HB.out.2.trans (hb5.mono HB.out.2.size)⟩
      · have HN : Hid (¬ hasB EL t.n (k + 1)) := fun ⟨i, y, hi, hy, hty⟩ => by
          by_cases c : i = k
          · subst c
            rw [hx] at hy
            cases hy
            exact hq hty
          · exact HB.out.1 ⟨i, y, by omega, hy, hty⟩
        have HC : Hid (Calls Try.prog 46 #[.agg (epA x), .pointer (some ⟨g, 0, none⟩)] wr fun e w' => Hid (e = .returned (.bool false) ∧ Below wr.heap.size wr w')) := by
          have q := newer_ok x t g wr (cell_below HB.out.2 hc.out)
          rw [decide_eq_false hq] at q
          exact q
        clear hx ca hq
        go_wp2_with (go_at_call 46; refine HC.out.mono ?_; intro e5 w5 hh5; obtain ⟨he5, hb5⟩ := hh5.out; subst he5)
        go_roundw
        case rel => exact ⟨k + 1, by omega, by go_num, HN.out, HB.out.2.trans (hb5.mono HB.out.2.size)⟩
        case measure => simp [intOf]; omega
    · obtain rfl : k = n := by omega
      go_wp2
      go_ret
      exact ⟨⟨-1, rfl, ⟨fun h => by omega, fun h => absurd h HB.out.1⟩, .inl rfl⟩, HB.out.2⟩
set_option maxHeartbeats 1600000 in
set_option maxRecDepth 100000 in
theorem contains_ok (p : Option Addr) (n c : Nat) (EL : List Epo) (t : Epo) (g : Nat) (hen : Hid (EL.length = n)) (hn0 : n ≤ 1000000000000000) (w : World) (e1 : Hid (RV epoL 5 w p EL)) (hc : Hid (w.cell? ⟨g, 0, none⟩ = some (.int .u64 t.n))) : Calls Try.prog 45 #[.slice p n c, .func (.func 46) #[] #[.pointer (some ⟨g, 0, none⟩)]] w fun e w' => Hid ((∃ b : Bool, e = .returned (.bool b) ∧ (b = true ↔ hasB EL t.n n)) ∧ Below w.heap.size w w') := by
  have HC := index_ok p n c EL t g hen hn0 w e1 hc
  have HH : Hid (Calls Try.prog 66 #[.slice p n c, .func (.func 46) #[] #[.pointer (some ⟨g, 0, none⟩)]] w fun e w' => Hid ((∃ z : Int, e = .returned (.int .i64 z) ∧ (0 ≤ z ↔ hasB EL t.n n) ∧ (z = -1 ∨ (0 ≤ z ∧ z ≤ 1000000000000000))) ∧ Below w.heap.size w w')) := HC
  clear HC e1 hc hen
  go_enter Try.func45, Try.ntmps45
  go_wp2_with (go_at_call 66; refine HH.out.mono ?_; intro e5 w5 hh5; obtain ⟨⟨z, he5, hz, hr⟩, hb5⟩ := hh5.out; subst he5)
  go_ret
  exact ⟨⟨_, rfl, by rw [← hz]; simp⟩, hb5⟩
set_option maxHeartbeats 1600000 in
set_option maxRecDepth 100000 in
theorem newest_ok (p : Option Addr) (n c : Nat) (EL : List Epo) (t : Epo) (hen : Hid (EL.length = n)) (hn0 : n ≤ 1000000000000000) (w : World) (e1 : Hid (RV epoL 5 w p EL)) : Calls Try.prog 20 #[.slice p n c, .agg (epA t)] w fun e w' => Hid ((∃ b : Bool, e = .returned (.bool b) ∧ (b = true ↔ ¬ hasB EL t.n n)) ∧ Below w.heap.size w w') := by
  have HB : Hid (Below w.heap.size w (w.alloc (.cells (epA t) 38))) := below_alloc1 _ _
  have HC : Hid (Calls Try.prog 45 #[.slice p n c, .func (.func 46) #[] #[.pointer (some ⟨w.heap.size, 0, none⟩)]] (w.alloc (.cells (epA t) 38)) fun e w' => Hid ((∃ b : Bool, e = .returned (.bool b) ∧ (b = true ↔ hasB EL t.n n)) ∧ Below (w.alloc (.cells (epA t) 38)).heap.size (w.alloc (.cells (epA t) 38)) w')) := contains_ok p n c EL t w.heap.size hen hn0 _ (e1.out.below HB.out) (rangeAt_new w _ 38 0 _ rfl)
  clear e1 hen
  go_enter Try.func20, Try.ntmps20
  go_upto_region 1 with fail
  generalize w.alloc (.cells (epA t) 38) = w0 at HB HC ⊢
  go_wp2_with (go_at_call 45; refine HC.out.mono ?_; intro e5 w5 hh5; obtain ⟨⟨b, he5, hb⟩, hb5⟩ := hh5.out; subst he5)
  go_ret
  exact ⟨⟨_, rfl, by rw [← hb]; cases b <;> simp⟩, HB.out.trans (hb5.mono HB.out.size)⟩
end Go.Proofs.Ytmfnhdflmnmooaa
namespace Go.Proofs.Ytmfnhdflmnmooaa
open Go.RowKit
set_option linter.unusedVariables false
set_option linter.unusedSimpArgs false
set_option maxHeartbeats 8000000 in
set_option maxRecDepth 100000 in
theorem one_0 (m : Mt) (hC : 0 ≤ m.C) (w : World) (N : Nat) (EL : List Epo) (f : Nat → Int × Int × Int) (hN : m.C - (2 * m.H + m.K) / m.U = (N : Nat)) (hN2 : N ≤ 4294967296) (hgb : m.gn ≤ 1000000000000000) (hen : Hid (EL.length = m.en)) (hn0 : m.en ≤ 1954687338268) (e1 : Hid (RV epoL 5 w m.ep EL)) (hSg : Hid (SegV w (.slice m.gp m.gn m.gc) m.gn f)) (hm : mayB m.U m.C m.H m.K = true) (hg : ¬ m.gn = 1) : Calls Try.prog 21 #[.agg (mtC m)] w fun e w' => Hid (e = .returned (.bool false) ∧ Below w.heap.size w w') := by
  obtain ⟨qu, qh, k4, k2, _, qc, qlt⟩ := mayB_all hm
  have hr := headB_range qh
  have h1 : 0 ≤ m.H := by omega
  have h2 : m.H ≤ 4194304 := hr.2
  have k1 : 0 ≤ m.K := by omega
  have HX : Hid (Bx (w.alloc (.cells (mtC m) 36)) w.heap.size m ∧ Below w.heap.size w (w.alloc (.cells (mtC m) 36))) := ⟨World.alloc_heap_new w _, below_alloc1 _ _⟩
  have qg : ((m.gn : Int) == 1) = false := by simp; omega
  clear hm qu qh qc qlt hr k4 hN hg
  go_enter Try.func21, Try.ntmps21
  go_upto_region 1 with fail
  generalize (w.alloc (.cells (mtC m) 36)) = w0 at HX ⊢
  have hS0 : Below w0.heap.size w0 w0.drew := (Below.refl _ _).drew
  have y13 := HX.out.1.c 13 (.slice m.gp m.gn m.gc) rfl
  go_quiet (fail)
  have HB : Hid (Below w.heap.size w (w0.drewN nq)) := Below.ofSm HX.out.2 ⟨rfl, rfl, rfl, rfl⟩
  go_wp2
  go_ret
  exact ⟨rfl, HB.out⟩
set_option maxHeartbeats 8000000 in
set_option maxRecDepth 100000 in
theorem one_1 (m : Mt) (hC : 0 ≤ m.C) (w : World) (N : Nat) (EL : List Epo) (f : Nat → Int × Int × Int) (hN : m.C - (2 * m.H + m.K) / m.U = (N : Nat)) (hN2 : N ≤ 4294967296) (hgb : m.gn ≤ 1000000000000000) (hen : Hid (EL.length = m.en)) (hn0 : m.en ≤ 1954687338268) (e1 : Hid (RV epoL 5 w m.ep EL)) (hSg : Hid (SegV w (.slice m.gp m.gn m.gc) m.gn f)) (hm : mayB m.U m.C m.H m.K = true) (hg : m.gn = 1) (hJ : ¬ f 0 = (0, (N : Int), (f 0).2.2)) : Calls Try.prog 21 #[.agg (mtC m)] w fun e w' => Hid (e = .returned (.bool false) ∧ Below w.heap.size w w') := by
  obtain ⟨qu, qh, k4, k2, _, qc, qlt⟩ := mayB_all hm
  have hr := headB_range qh
  have h1 : 0 ≤ m.H := by omega
  have h2 : m.H ≤ 4194304 := hr.2
  have k1 : 0 ≤ m.K := by omega
  have HX : Hid (Bx (w.alloc (.cells (mtC m) 36)) w.heap.size m ∧ Below w.heap.size w (w.alloc (.cells (mtC m) 36))) := ⟨World.alloc_heap_new w _, below_alloc1 _ _⟩
  have HSec : Hid (∀ u, Calls Try.prog 25 #[.agg #[.int .i64 m.U, .int .u64 m.C, .int .i64 m.H, .int .i64 m.K]] u fun e w' => Hid (e = .returned (.int .u64 (N : Nat)) ∧ Below u.heap.size u w')) := fun u => by
    have q := sectors_ok m.U m.C m.H m.K u qu h1 h2 k1 k2 (by omega) qc
    rw [hN] at q
    exact q
  obtain ⟨p0, c0, hv0, hcell⟩ := hSg.out
  simp only [Value.slice.injEq] at hv0
  obtain ⟨hp0, _, hc0⟩ := hv0
  obtain ⟨G, O, hpG, hl⟩ := hcell (by omega)
  obtain ⟨z0, z1, z2⟩ := hl 0 (by omega)
  have HP : Hid (m.gp = some ⟨G, O, none⟩ ∧ m.gn = 1) := ⟨hp0.trans hpG, hg⟩
  have hbG : G < w.heap.size := World.block_lt_of_cell? w _ z0
  obtain ⟨s, hs⟩ : ∃ s, Hid (s = f 0) := ⟨_, rfl⟩
  rw [← hs.out] at z0 z1 z2 hJ
  simp only [Nat.zero_mul, Nat.add_zero] at z0 z1 z2
  have HQ : ∀ u, (Op.equalIn 10000 65 (.agg #[.int .u64 s.1, .int .u64 s.2.1, .int .u64 s.2.2]) (.agg #[.int .u64 0, .int .u64 (N : Nat), .int .u64 s.2.2])).run Try.prog u = .ok false u := fun u => by
    rw [eqSeg, decide_eq_false]
    · exact fun q => hJ (Prod.ext q.1 (Prod.ext q.2.1 rfl))
  clear hm qu qh qc qlt hr k4 hN hg hJ hp0 hpG hc0 hcell hl
  go_enter Try.func21, Try.ntmps21
  go_upto_region 1 with fail
  generalize (w.alloc (.cells (mtC m) 36)) = w0 at HX ⊢
  have hS0 : Below w0.heap.size w0 w0.drew := (Below.refl _ _).drew
  have f13 : ∀ u, Below w0.heap.size w0 u → u.cell? ⟨w.heap.size, 13, none⟩ = some (.slice (some ⟨G, O, none⟩) 1 m.gc) := fun u hu => by
    have q := (HX.out.1.below hu).c 13 (.slice m.gp m.gn m.gc) rfl
    rw [HP.out.1, HP.out.2] at q
    exact q
  have f12 : ∀ u, Below w0.heap.size w0 u → u.cell? ⟨w.heap.size, 12, none⟩ = some (.slice m.ep m.en m.ec) := fun u hu => (HX.out.1.below hu).c 12 _ rfl
  have s0 : ∀ u, Below w0.heap.size w0 u → u.cell? ⟨G, O, none⟩ = some (.int .u64 s.1) := fun u hu => cell_below hu (cell_below HX.out.2 z0)
  have s1 : ∀ u, Below w0.heap.size w0 u → u.cell? ⟨G, O + 1, none⟩ = some (.int .u64 s.2.1) := fun u hu => cell_below hu (cell_below HX.out.2 z1)
  have s2 : ∀ u, Below w0.heap.size w0 u → u.cell? ⟨G, O + 2, none⟩ = some (.int .u64 s.2.2) := fun u hu => cell_below hu (cell_below HX.out.2 z2)
  have hrs : ∀ u, Below w0.heap.size w0 u → u.rangeAt w.heap.size 4 [.int .i64 m.U, .int .u64 m.C, .int .i64 m.H, .int .i64 m.K] := fun u hu j v hj => (HX.out.1.below hu).c (4 + j) v (by
    match j, hj with
    | 0, hj => exact hj
    | 1, hj => exact hj
    | 2, hj => exact hj
    | 3, hj => exact hj
    | n + 4, hj => simp at hj)
  clear z0 z1 z2
  refine wp_region_noPanic ?_
  refine wp_region_held_drew (S := fun u => Below w0.heap.size w0 u) (by kernel_rfl) (hS0) (fun _ => ?_)
  refine takeH_at 0 3 (.pointer (some ⟨w.heap.size, 13, none⟩)) rfl rfl (by kernel_rfl) (by kernel_rfl) (by kernel_rfl) (fun _ _ _ h => h) (hS0) (Or.inl ⟨by kernel_rfl, fun w' hS' => by go_simp⟩) ?_
  simp only [List.setIfInBounds_toArray, List.set_cons_zero, List.set_cons_succ]
  refine takeH_at 1 4 (.slice (some ⟨G, O, none⟩) 1 m.gc) rfl rfl (by kernel_rfl) (by kernel_rfl) (by kernel_rfl) (fun _ _ _ h => h) (hS0) (Or.inl ⟨by kernel_rfl, fun w' hS' => by have q := f13 w' hS'; go_simp⟩) ?_
  simp only [List.setIfInBounds_toArray, List.set_cons_zero, List.set_cons_succ]
  refine takeH_at 2 5 (.int .i64 1) rfl rfl (by kernel_rfl) (by kernel_rfl) (by kernel_rfl) (fun _ _ _ h => h) (hS0) (Or.inl ⟨by kernel_rfl, fun w' hS' => by go_simp⟩) ?_
  simp only [List.setIfInBounds_toArray, List.set_cons_zero, List.set_cons_succ]
  refine takeH_at 3 6 (.bool true) rfl rfl (by kernel_rfl) (by kernel_rfl) (by kernel_rfl) (fun _ _ _ h => h) (hS0) (Or.inl ⟨by kernel_rfl, fun w' hS' => by go_simp⟩) ?_
  simp only [List.setIfInBounds_toArray, List.set_cons_zero, List.set_cons_succ]
  refine takeH_at 4 7 (.bool true) rfl rfl (by kernel_rfl) (by kernel_rfl) (by kernel_rfl) (fun _ _ _ h => h) (hS0) (Or.inl ⟨by kernel_rfl, fun w' hS' => by go_simp⟩) ?_
  simp only [List.setIfInBounds_toArray, List.set_cons_zero, List.set_cons_succ]
  refine takeH_at 5 8 (.pointer (some ⟨w.heap.size, 13, none⟩)) rfl rfl (by kernel_rfl) (by kernel_rfl) (by kernel_rfl) (fun _ _ _ h => h) (hS0) (Or.inl ⟨by kernel_rfl, fun w' hS' => by go_simp⟩) ?_
  simp only [List.setIfInBounds_toArray, List.set_cons_zero, List.set_cons_succ]
  refine takeH_at 6 9 (.slice (some ⟨G, O, none⟩) 1 m.gc) rfl rfl (by kernel_rfl) (by kernel_rfl) (by kernel_rfl) (fun _ _ _ h => h) (hS0) (Or.inl ⟨by kernel_rfl, fun w' hS' => by have q := f13 w' hS'; go_simp⟩) ?_
  simp only [List.setIfInBounds_toArray, List.set_cons_zero, List.set_cons_succ]
  refine takeH_at 7 10 (.pointer (some ⟨G, O, none⟩)) rfl rfl (by kernel_rfl) (by kernel_rfl) (by kernel_rfl) (fun _ _ _ h => h) (hS0) (Or.inl ⟨by kernel_rfl, fun w' hS' => by go_simp⟩) ?_
  simp only [List.setIfInBounds_toArray, List.set_cons_zero, List.set_cons_succ]
  refine takeH_at 8 11 (.agg #[.int .u64 s.1, .int .u64 s.2.1, .int .u64 s.2.2]) rfl rfl (by kernel_rfl) (by kernel_rfl) (by kernel_rfl) (fun _ _ _ h => h) (hS0) (Or.inl ⟨by kernel_rfl, fun w' hS' => by have q0 := s0 w' hS'; have q1 := s1 w' hS'; have q2 := s2 w' hS'; go_simp⟩) ?_
  simp only [List.setIfInBounds_toArray, List.set_cons_zero, List.set_cons_succ]
  refine takeH_at 9 12 (.pointer (some ⟨w.heap.size, 4, none⟩)) rfl rfl (by kernel_rfl) (by kernel_rfl) (by kernel_rfl) (fun _ _ _ h => h) (hS0) (Or.inl ⟨by kernel_rfl, fun w' hS' => by go_simp⟩) ?_
  simp only [List.setIfInBounds_toArray, List.set_cons_zero, List.set_cons_succ]
  refine takeH_at 10 13 (.agg #[.int .i64 m.U, .int .u64 m.C, .int .i64 m.H, .int .i64 m.K]) rfl rfl (by kernel_rfl) (by kernel_rfl) (by kernel_rfl) (fun _ _ _ h => h) (hS0) (yieldsIf_load_mid (by kernel_rfl) 24 (.tmp 12) rfl w.heap.size 4 rfl [.int .i64 m.U, .int .u64 m.C, .int .i64 m.H, .int .i64 m.K] _ hrs Try.underlying24 rfl (by kernel_rfl)) ?_
  simp only [List.setIfInBounds_toArray, List.set_cons_zero, List.set_cons_succ]
  refine takeH_at 12 15 (.pointer (some ⟨w.heap.size, 13, none⟩)) rfl rfl (by kernel_rfl) (by kernel_rfl) (by kernel_rfl) (fun _ _ _ h => h) (hS0) (Or.inl ⟨by kernel_rfl, fun w' hS' => by go_simp⟩) ?_
  simp only [List.setIfInBounds_toArray, List.set_cons_zero, List.set_cons_succ]
  refine takeH_at 13 16 (.slice (some ⟨G, O, none⟩) 1 m.gc) rfl rfl (by kernel_rfl) (by kernel_rfl) (by kernel_rfl) (fun _ _ _ h => h) (hS0) (Or.inl ⟨by kernel_rfl, fun w' hS' => by have q := f13 w' hS'; go_simp⟩) ?_
  simp only [List.setIfInBounds_toArray, List.set_cons_zero, List.set_cons_succ]
  refine takeH_at 14 17 (.pointer (some ⟨G, O, none⟩)) rfl rfl (by kernel_rfl) (by kernel_rfl) (by kernel_rfl) (fun _ _ _ h => h) (hS0) (Or.inl ⟨by kernel_rfl, fun w' hS' => by go_simp⟩) ?_
  simp only [List.setIfInBounds_toArray, List.set_cons_zero, List.set_cons_succ]
  refine takeH_at 15 18 (.pointer (some ⟨G, O + 2, none⟩)) rfl rfl (by kernel_rfl) (by kernel_rfl) (by kernel_rfl) (fun _ _ _ h => h) (hS0) (Or.inl ⟨by kernel_rfl, fun w' hS' => by go_simp⟩) ?_
  simp only [List.setIfInBounds_toArray, List.set_cons_zero, List.set_cons_succ]
  refine takeH_at 16 19 (.int .u64 s.2.2) rfl rfl (by kernel_rfl) (by kernel_rfl) (by kernel_rfl) (fun _ _ _ h => h) (hS0) (Or.inl ⟨by kernel_rfl, fun w' hS' => by have q0 := s0 w' hS'; have q1 := s1 w' hS'; have q2 := s2 w' hS'; go_simp⟩) ?_
  simp only [List.setIfInBounds_toArray, List.set_cons_zero, List.set_cons_succ]
  refine wpAnyH_ready (rs := [11]) (by kernel_rfl) (by simp) ?_
  refine AllReadyH.cons rfl (fun Kx hK => ?_) AllReadyH.nil
  rw [if_pos (by kernel_rfl)]
  go_simp
  refine (HSec.out _).mono ?_
  intro e1 q1 hh
  obtain ⟨he, hq1⟩ := hh.out
  subst he
  clear hh
  have hS1 : Below w0.heap.size w0 q1 := (hS0).trans (hq1.mono (hS0).size)
  go_wp2_with fail
  refine hK.out _ _ hS1 (fun _ => ?_)
  clear hK Kx
  try simp only [Act.put, List.setIfInBounds_toArray, List.set_cons_zero, List.set_cons_succ]
  refine takeH_at 17 20 (.agg #[.int .u64 0, .int .u64 (N : Nat), .int .u64 s.2.2]) rfl rfl (by kernel_rfl) (by kernel_rfl) (by kernel_rfl) (fun _ _ _ h => h) (hS1) (Or.inl ⟨by kernel_rfl, fun w' hS' => by go_simp⟩) ?_
  simp only [List.setIfInBounds_toArray, List.set_cons_zero, List.set_cons_succ]
  refine takeH_at 18 21 (.bool false) rfl rfl (by kernel_rfl) (by kernel_rfl) (by kernel_rfl) (fun _ _ _ h => h) (hS1) (Or.inl ⟨by kernel_rfl, fun w' hS' => by go_simp⟩) ?_
  simp only [List.setIfInBounds_toArray, List.set_cons_zero, List.set_cons_succ]
  refine takeH_at 19 22 (.bool false) rfl rfl (by kernel_rfl) (by kernel_rfl) (by kernel_rfl) (fun _ _ _ h => h) (hS1) (Or.inl ⟨by kernel_rfl, fun w' hS' => by go_simp⟩) ?_
  simp only [List.setIfInBounds_toArray, List.set_cons_zero, List.set_cons_succ]
  refine takeH_at 20 23 (.bool false) rfl rfl (by kernel_rfl) (by kernel_rfl) (by kernel_rfl) (fun _ _ _ h => h) (hS1) (Or.inl ⟨by kernel_rfl, fun w' hS' => by go_simp⟩) ?_
  simp only [List.setIfInBounds_toArray, List.set_cons_zero, List.set_cons_succ]
  refine takeH_at 21 24 undef rfl rfl (by kernel_rfl) (by kernel_rfl) (by kernel_rfl) (fun _ _ _ h => h) (hS1) (Or.inr ⟨by kernel_rfl, rfl⟩) ?_
  simp only [List.setIfInBounds_toArray, List.set_cons_zero, List.set_cons_succ]
  refine takeH_at 22 25 undef rfl rfl (by kernel_rfl) (by kernel_rfl) (by kernel_rfl) (fun _ _ _ h => h) (hS1) (Or.inr ⟨by kernel_rfl, rfl⟩) ?_
  simp only [List.setIfInBounds_toArray, List.set_cons_zero, List.set_cons_succ]
  refine takeH_at 23 26 undef rfl rfl (by kernel_rfl) (by kernel_rfl) (by kernel_rfl) (fun _ _ _ h => h) (hS1) (Or.inr ⟨by kernel_rfl, rfl⟩) ?_
  simp only [List.setIfInBounds_toArray, List.set_cons_zero, List.set_cons_succ]
  refine takeH_at 24 27 undef rfl rfl (by kernel_rfl) (by kernel_rfl) (by kernel_rfl) (fun _ _ _ h => h) (hS1) (Or.inr ⟨by kernel_rfl, rfl⟩) ?_
  simp only [List.setIfInBounds_toArray, List.set_cons_zero, List.set_cons_succ]
  refine takeH_at 25 28 undef rfl rfl (by kernel_rfl) (by kernel_rfl) (by kernel_rfl) (fun _ _ _ h => h) (hS1) (Or.inr ⟨by kernel_rfl, rfl⟩) ?_
  simp only [List.setIfInBounds_toArray, List.set_cons_zero, List.set_cons_succ]
  refine takeH_at 26 29 undef rfl rfl (by kernel_rfl) (by kernel_rfl) (by kernel_rfl) (fun _ _ _ h => h) (hS1) (Or.inr ⟨by kernel_rfl, rfl⟩) ?_
  simp only [List.setIfInBounds_toArray, List.set_cons_zero, List.set_cons_succ]
  refine takeH_at 27 30 undef rfl rfl (by kernel_rfl) (by kernel_rfl) (by kernel_rfl) (fun _ _ _ h => h) (hS1) (Or.inr ⟨by kernel_rfl, rfl⟩) ?_
  simp only [List.setIfInBounds_toArray, List.set_cons_zero, List.set_cons_succ]
  refine takeH_at 28 31 undef rfl rfl (by kernel_rfl) (by kernel_rfl) (by kernel_rfl) (fun _ _ _ h => h) (hS1) (Or.inr ⟨by kernel_rfl, rfl⟩) ?_
  simp only [List.setIfInBounds_toArray, List.set_cons_zero, List.set_cons_succ]
  refine takeH_at 29 32 (.bool false) rfl rfl (by kernel_rfl) (by kernel_rfl) (by kernel_rfl) (fun _ _ _ h => h) (hS1) (Or.inl ⟨by kernel_rfl, fun w' hS' => by go_simp⟩) ?_
  simp only [List.setIfInBounds_toArray, List.set_cons_zero, List.set_cons_succ]
  refine takeH_at 30 2 (.bool false) rfl rfl (by kernel_rfl) (by kernel_rfl) (by kernel_rfl) (fun _ _ _ h => h) (hS1) (Or.inl ⟨by kernel_rfl, fun w' hS' => by go_simp⟩) ?_
  simp only [List.setIfInBounds_toArray, List.set_cons_zero, List.set_cons_succ]
  refine wpAnyH_done (by kernel_rfl) ?_ _
  refine NoPanic.normal ?_
  go_wp2_with fail
  go_ret
  exact ⟨rfl, HX.out.2.trans (hS1.mono HX.out.2.size)⟩
set_option maxHeartbeats 8000000 in
set_option maxRecDepth 100000 in
theorem one_2 (m : Mt) (hC : 0 ≤ m.C) (w : World) (N : Nat) (EL : List Epo) (f : Nat → Int × Int × Int) (hN : m.C - (2 * m.H + m.K) / m.U = (N : Nat)) (hN2 : N ≤ 4294967296) (hgb : m.gn ≤ 1000000000000000) (hen : Hid (EL.length = m.en)) (hn0 : m.en ≤ 1954687338268) (e1 : Hid (RV epoL 5 w m.ep EL)) (hSg : Hid (SegV w (.slice m.gp m.gn m.gc) m.gn f)) (hm : mayB m.U m.C m.H m.K = true) (hg : m.gn = 1) (hJ : f 0 = (0, (N : Int), (f 0).2.2)) : Calls Try.prog 21 #[.agg (mtC m)] w fun e w' => Hid (e = .returned (.bool (decide (epN EL (f 0).2.2 m.en = 1))) ∧ Below w.heap.size w w') := by
  obtain ⟨qu, qh, k4, k2, _, qc, qlt⟩ := mayB_all hm
  have hr := headB_range qh
  have h1 : 0 ≤ m.H := by omega
  have h2 : m.H ≤ 4194304 := hr.2
  have k1 : 0 ≤ m.K := by omega
  have HX : Hid (Bx (w.alloc (.cells (mtC m) 36)) w.heap.size m ∧ Below w.heap.size w (w.alloc (.cells (mtC m) 36))) := ⟨World.alloc_heap_new w _, below_alloc1 _ _⟩
  have HSec : Hid (∀ u, Calls Try.prog 25 #[.agg #[.int .i64 m.U, .int .u64 m.C, .int .i64 m.H, .int .i64 m.K]] u fun e w' => Hid (e = .returned (.int .u64 (N : Nat)) ∧ Below u.heap.size u w')) := fun u => by
    have q := sectors_ok m.U m.C m.H m.K u qu h1 h2 k1 k2 (by omega) qc
    rw [hN] at q
    exact q
  obtain ⟨p0, c0, hv0, hcell⟩ := hSg.out
  simp only [Value.slice.injEq] at hv0
  obtain ⟨hp0, _, hc0⟩ := hv0
  obtain ⟨G, O, hpG, hl⟩ := hcell (by omega)
  obtain ⟨z0, z1, z2⟩ := hl 0 (by omega)
  have HP : Hid (m.gp = some ⟨G, O, none⟩ ∧ m.gn = 1) := ⟨hp0.trans hpG, hg⟩
  have hbG : G < w.heap.size := World.block_lt_of_cell? w _ z0
  obtain ⟨s, hs⟩ : ∃ s, Hid (s = f 0) := ⟨_, rfl⟩
  rw [← hs.out] at z0 z1 z2 hJ
  simp only [Nat.zero_mul, Nat.add_zero] at z0 z1 z2
  have HQ : ∀ u, (Op.equalIn 10000 65 (.agg #[.int .u64 s.1, .int .u64 s.2.1, .int .u64 s.2.2]) (.agg #[.int .u64 0, .int .u64 (N : Nat), .int .u64 s.2.2])).run Try.prog u = .ok true u := fun u => by
    rw [eqSeg, decide_eq_true]
    · exact ⟨congrArg (fun x => x.1) hJ, congrArg (fun x => x.2.1) hJ, rfl⟩
  rw [← hs.out]
  clear hm qu qh qc qlt hr k4 hN hg hJ hp0 hpG hc0 hcell hl
  go_enter Try.func21, Try.ntmps21
  go_upto_region 1 with fail
  generalize (w.alloc (.cells (mtC m) 36)) = w0 at HX ⊢
  have hS0 : Below w0.heap.size w0 w0.drew := (Below.refl _ _).drew
  have f13 : ∀ u, Below w0.heap.size w0 u → u.cell? ⟨w.heap.size, 13, none⟩ = some (.slice (some ⟨G, O, none⟩) 1 m.gc) := fun u hu => by
    have q := (HX.out.1.below hu).c 13 (.slice m.gp m.gn m.gc) rfl
    rw [HP.out.1, HP.out.2] at q
    exact q
  have f12 : ∀ u, Below w0.heap.size w0 u → u.cell? ⟨w.heap.size, 12, none⟩ = some (.slice m.ep m.en m.ec) := fun u hu => (HX.out.1.below hu).c 12 _ rfl
  have s0 : ∀ u, Below w0.heap.size w0 u → u.cell? ⟨G, O, none⟩ = some (.int .u64 s.1) := fun u hu => cell_below hu (cell_below HX.out.2 z0)
  have s1 : ∀ u, Below w0.heap.size w0 u → u.cell? ⟨G, O + 1, none⟩ = some (.int .u64 s.2.1) := fun u hu => cell_below hu (cell_below HX.out.2 z1)
  have s2 : ∀ u, Below w0.heap.size w0 u → u.cell? ⟨G, O + 2, none⟩ = some (.int .u64 s.2.2) := fun u hu => cell_below hu (cell_below HX.out.2 z2)
  have hrs : ∀ u, Below w0.heap.size w0 u → u.rangeAt w.heap.size 4 [.int .i64 m.U, .int .u64 m.C, .int .i64 m.H, .int .i64 m.K] := fun u hu j v hj => (HX.out.1.below hu).c (4 + j) v (by
    match j, hj with
    | 0, hj => exact hj
    | 1, hj => exact hj
    | 2, hj => exact hj
    | 3, hj => exact hj
    | n + 4, hj => simp at hj)
  have HOn : Hid (∀ u, Below w0.heap.size w0 u → Calls Try.prog 47 #[.slice m.ep m.en m.ec, .int .u64 s.2.2] u fun e w' => Hid (e = .returned (.bool (decide (epN EL s.2.2 m.en = 1))) ∧ Below u.heap.size u w')) := fun u hu => only_ok m.ep m.en m.ec EL s.2.2 hen hn0 u (e1.out.below (HX.out.2.trans (hu.mono HX.out.2.size)))
  clear z0 z1 z2
  refine wp_region_noPanic ?_
  refine wp_region_held_drew (S := fun u => Below w0.heap.size w0 u) (by kernel_rfl) (hS0) (fun _ => ?_)
  refine takeH_at 0 3 (.pointer (some ⟨w.heap.size, 13, none⟩)) rfl rfl (by kernel_rfl) (by kernel_rfl) (by kernel_rfl) (fun _ _ _ h => h) (hS0) (Or.inl ⟨by kernel_rfl, fun w' hS' => by go_simp⟩) ?_
  simp only [List.setIfInBounds_toArray, List.set_cons_zero, List.set_cons_succ]
  refine takeH_at 1 4 (.slice (some ⟨G, O, none⟩) 1 m.gc) rfl rfl (by kernel_rfl) (by kernel_rfl) (by kernel_rfl) (fun _ _ _ h => h) (hS0) (Or.inl ⟨by kernel_rfl, fun w' hS' => by have q := f13 w' hS'; go_simp⟩) ?_
  simp only [List.setIfInBounds_toArray, List.set_cons_zero, List.set_cons_succ]
  refine takeH_at 2 5 (.int .i64 1) rfl rfl (by kernel_rfl) (by kernel_rfl) (by kernel_rfl) (fun _ _ _ h => h) (hS0) (Or.inl ⟨by kernel_rfl, fun w' hS' => by go_simp⟩) ?_
  simp only [List.setIfInBounds_toArray, List.set_cons_zero, List.set_cons_succ]
  refine takeH_at 3 6 (.bool true) rfl rfl (by kernel_rfl) (by kernel_rfl) (by kernel_rfl) (fun _ _ _ h => h) (hS0) (Or.inl ⟨by kernel_rfl, fun w' hS' => by go_simp⟩) ?_
  simp only [List.setIfInBounds_toArray, List.set_cons_zero, List.set_cons_succ]
  refine takeH_at 4 7 (.bool true) rfl rfl (by kernel_rfl) (by kernel_rfl) (by kernel_rfl) (fun _ _ _ h => h) (hS0) (Or.inl ⟨by kernel_rfl, fun w' hS' => by go_simp⟩) ?_
  simp only [List.setIfInBounds_toArray, List.set_cons_zero, List.set_cons_succ]
  refine takeH_at 5 8 (.pointer (some ⟨w.heap.size, 13, none⟩)) rfl rfl (by kernel_rfl) (by kernel_rfl) (by kernel_rfl) (fun _ _ _ h => h) (hS0) (Or.inl ⟨by kernel_rfl, fun w' hS' => by go_simp⟩) ?_
  simp only [List.setIfInBounds_toArray, List.set_cons_zero, List.set_cons_succ]
  refine takeH_at 6 9 (.slice (some ⟨G, O, none⟩) 1 m.gc) rfl rfl (by kernel_rfl) (by kernel_rfl) (by kernel_rfl) (fun _ _ _ h => h) (hS0) (Or.inl ⟨by kernel_rfl, fun w' hS' => by have q := f13 w' hS'; go_simp⟩) ?_
  simp only [List.setIfInBounds_toArray, List.set_cons_zero, List.set_cons_succ]
  refine takeH_at 7 10 (.pointer (some ⟨G, O, none⟩)) rfl rfl (by kernel_rfl) (by kernel_rfl) (by kernel_rfl) (fun _ _ _ h => h) (hS0) (Or.inl ⟨by kernel_rfl, fun w' hS' => by go_simp⟩) ?_
  simp only [List.setIfInBounds_toArray, List.set_cons_zero, List.set_cons_succ]
  refine takeH_at 8 11 (.agg #[.int .u64 s.1, .int .u64 s.2.1, .int .u64 s.2.2]) rfl rfl (by kernel_rfl) (by kernel_rfl) (by kernel_rfl) (fun _ _ _ h => h) (hS0) (Or.inl ⟨by kernel_rfl, fun w' hS' => by have q0 := s0 w' hS'; have q1 := s1 w' hS'; have q2 := s2 w' hS'; go_simp⟩) ?_
  simp only [List.setIfInBounds_toArray, List.set_cons_zero, List.set_cons_succ]
  refine takeH_at 9 12 (.pointer (some ⟨w.heap.size, 4, none⟩)) rfl rfl (by kernel_rfl) (by kernel_rfl) (by kernel_rfl) (fun _ _ _ h => h) (hS0) (Or.inl ⟨by kernel_rfl, fun w' hS' => by go_simp⟩) ?_
  simp only [List.setIfInBounds_toArray, List.set_cons_zero, List.set_cons_succ]
  refine takeH_at 10 13 (.agg #[.int .i64 m.U, .int .u64 m.C, .int .i64 m.H, .int .i64 m.K]) rfl rfl (by kernel_rfl) (by kernel_rfl) (by kernel_rfl) (fun _ _ _ h => h) (hS0) (yieldsIf_load_mid (by kernel_rfl) 24 (.tmp 12) rfl w.heap.size 4 rfl [.int .i64 m.U, .int .u64 m.C, .int .i64 m.H, .int .i64 m.K] _ hrs Try.underlying24 rfl (by kernel_rfl)) ?_
  simp only [List.setIfInBounds_toArray, List.set_cons_zero, List.set_cons_succ]
  refine takeH_at 12 15 (.pointer (some ⟨w.heap.size, 13, none⟩)) rfl rfl (by kernel_rfl) (by kernel_rfl) (by kernel_rfl) (fun _ _ _ h => h) (hS0) (Or.inl ⟨by kernel_rfl, fun w' hS' => by go_simp⟩) ?_
  simp only [List.setIfInBounds_toArray, List.set_cons_zero, List.set_cons_succ]
  refine takeH_at 13 16 (.slice (some ⟨G, O, none⟩) 1 m.gc) rfl rfl (by kernel_rfl) (by kernel_rfl) (by kernel_rfl) (fun _ _ _ h => h) (hS0) (Or.inl ⟨by kernel_rfl, fun w' hS' => by have q := f13 w' hS'; go_simp⟩) ?_
  simp only [List.setIfInBounds_toArray, List.set_cons_zero, List.set_cons_succ]
  refine takeH_at 14 17 (.pointer (some ⟨G, O, none⟩)) rfl rfl (by kernel_rfl) (by kernel_rfl) (by kernel_rfl) (fun _ _ _ h => h) (hS0) (Or.inl ⟨by kernel_rfl, fun w' hS' => by go_simp⟩) ?_
  simp only [List.setIfInBounds_toArray, List.set_cons_zero, List.set_cons_succ]
  refine takeH_at 15 18 (.pointer (some ⟨G, O + 2, none⟩)) rfl rfl (by kernel_rfl) (by kernel_rfl) (by kernel_rfl) (fun _ _ _ h => h) (hS0) (Or.inl ⟨by kernel_rfl, fun w' hS' => by go_simp⟩) ?_
  simp only [List.setIfInBounds_toArray, List.set_cons_zero, List.set_cons_succ]
  refine takeH_at 16 19 (.int .u64 s.2.2) rfl rfl (by kernel_rfl) (by kernel_rfl) (by kernel_rfl) (fun _ _ _ h => h) (hS0) (Or.inl ⟨by kernel_rfl, fun w' hS' => by have q0 := s0 w' hS'; have q1 := s1 w' hS'; have q2 := s2 w' hS'; go_simp⟩) ?_
  simp only [List.setIfInBounds_toArray, List.set_cons_zero, List.set_cons_succ]
  refine wpAnyH_ready (rs := [11]) (by kernel_rfl) (by simp) ?_
  refine AllReadyH.cons rfl (fun Kx hK => ?_) AllReadyH.nil
  rw [if_pos (by kernel_rfl)]
  go_simp
  refine (HSec.out _).mono ?_
  intro e1 q1 hh
  obtain ⟨he, hq1⟩ := hh.out
  subst he
  clear hh
  have hS1 : Below w0.heap.size w0 q1 := (hS0).trans (hq1.mono (hS0).size)
  go_wp2_with fail
  refine hK.out _ _ hS1 (fun _ => ?_)
  clear hK Kx
  try simp only [Act.put, List.setIfInBounds_toArray, List.set_cons_zero, List.set_cons_succ]
  refine takeH_at 17 20 (.agg #[.int .u64 0, .int .u64 (N : Nat), .int .u64 s.2.2]) rfl rfl (by kernel_rfl) (by kernel_rfl) (by kernel_rfl) (fun _ _ _ h => h) (hS1) (Or.inl ⟨by kernel_rfl, fun w' hS' => by go_simp⟩) ?_
  simp only [List.setIfInBounds_toArray, List.set_cons_zero, List.set_cons_succ]
  refine takeH_at 18 21 (.bool true) rfl rfl (by kernel_rfl) (by kernel_rfl) (by kernel_rfl) (fun _ _ _ h => h) (hS1) (Or.inl ⟨by kernel_rfl, fun w' hS' => by go_simp⟩) ?_
  simp only [List.setIfInBounds_toArray, List.set_cons_zero, List.set_cons_succ]
  refine takeH_at 19 22 (.bool true) rfl rfl (by kernel_rfl) (by kernel_rfl) (by kernel_rfl) (fun _ _ _ h => h) (hS1) (Or.inl ⟨by kernel_rfl, fun w' hS' => by go_simp⟩) ?_
  simp only [List.setIfInBounds_toArray, List.set_cons_zero, List.set_cons_succ]
  refine takeH_at 20 23 (.bool true) rfl rfl (by kernel_rfl) (by kernel_rfl) (by kernel_rfl) (fun _ _ _ h => h) (hS1) (Or.inl ⟨by kernel_rfl, fun w' hS' => by go_simp⟩) ?_
  simp only [List.setIfInBounds_toArray, List.set_cons_zero, List.set_cons_succ]
  refine takeH_at 21 24 (.pointer (some ⟨w.heap.size, 12, none⟩)) rfl rfl (by kernel_rfl) (by kernel_rfl) (by kernel_rfl) (fun _ _ _ h => h) (hS1) (Or.inl ⟨by kernel_rfl, fun w' hS' => by go_simp⟩) ?_
  simp only [List.setIfInBounds_toArray, List.set_cons_zero, List.set_cons_succ]
  refine takeH_at 22 25 (.slice m.ep m.en m.ec) rfl rfl (by kernel_rfl) (by kernel_rfl) (by kernel_rfl) (fun _ _ _ h => h) (hS1) (Or.inl ⟨by kernel_rfl, fun w' hS' => by have q := f12 w' hS'; go_simp⟩) ?_
  simp only [List.setIfInBounds_toArray, List.set_cons_zero, List.set_cons_succ]
  refine takeH_at 23 26 (.pointer (some ⟨w.heap.size, 13, none⟩)) rfl rfl (by kernel_rfl) (by kernel_rfl) (by kernel_rfl) (fun _ _ _ h => h) (hS1) (Or.inl ⟨by kernel_rfl, fun w' hS' => by go_simp⟩) ?_
  simp only [List.setIfInBounds_toArray, List.set_cons_zero, List.set_cons_succ]
  refine takeH_at 24 27 (.slice (some ⟨G, O, none⟩) 1 m.gc) rfl rfl (by kernel_rfl) (by kernel_rfl) (by kernel_rfl) (fun _ _ _ h => h) (hS1) (Or.inl ⟨by kernel_rfl, fun w' hS' => by have q := f13 w' hS'; go_simp⟩) ?_
  simp only [List.setIfInBounds_toArray, List.set_cons_zero, List.set_cons_succ]
  refine takeH_at 25 28 (.pointer (some ⟨G, O, none⟩)) rfl rfl (by kernel_rfl) (by kernel_rfl) (by kernel_rfl) (fun _ _ _ h => h) (hS1) (Or.inl ⟨by kernel_rfl, fun w' hS' => by go_simp⟩) ?_
  simp only [List.setIfInBounds_toArray, List.set_cons_zero, List.set_cons_succ]
  refine takeH_at 26 29 (.pointer (some ⟨G, O + 2, none⟩)) rfl rfl (by kernel_rfl) (by kernel_rfl) (by kernel_rfl) (fun _ _ _ h => h) (hS1) (Or.inl ⟨by kernel_rfl, fun w' hS' => by go_simp⟩) ?_
  simp only [List.setIfInBounds_toArray, List.set_cons_zero, List.set_cons_succ]
  refine takeH_at 27 30 (.int .u64 s.2.2) rfl rfl (by kernel_rfl) (by kernel_rfl) (by kernel_rfl) (fun _ _ _ h => h) (hS1) (Or.inl ⟨by kernel_rfl, fun w' hS' => by have q0 := s0 w' hS'; have q1 := s1 w' hS'; have q2 := s2 w' hS'; go_simp⟩) ?_
  simp only [List.setIfInBounds_toArray, List.set_cons_zero, List.set_cons_succ]
  refine wpAnyH_ready (rs := [28]) (by kernel_rfl) (by simp) ?_
  refine AllReadyH.cons rfl (fun Kx hK => ?_) AllReadyH.nil
  rw [if_pos (by kernel_rfl)]
  go_simp
  refine (HOn.out _ (hS1)).mono ?_
  intro e1 q2 hh
  obtain ⟨he, hq2⟩ := hh.out
  subst he
  clear hh
  have hS2 : Below w0.heap.size w0 q2 := (hS1).trans (hq2.mono (hS1).size)
  go_wp2_with fail
  refine hK.out _ _ hS2 (fun _ => ?_)
  clear hK Kx
  try simp only [Act.put, List.setIfInBounds_toArray, List.set_cons_zero, List.set_cons_succ]
  refine takeH_at 29 32 (.bool (decide (epN EL s.2.2 m.en = 1))) rfl rfl (by kernel_rfl) (by kernel_rfl) (by kernel_rfl) (fun _ _ _ h => h) (hS2) (Or.inl ⟨by kernel_rfl, fun w' hS' => by go_simp⟩) ?_
  simp only [List.setIfInBounds_toArray, List.set_cons_zero, List.set_cons_succ]
  refine takeH_at 30 2 (.bool (decide (epN EL s.2.2 m.en = 1))) rfl rfl (by kernel_rfl) (by kernel_rfl) (by kernel_rfl) (fun _ _ _ h => h) (hS2) (Or.inl ⟨by kernel_rfl, fun w' hS' => by go_simp⟩) ?_
  simp only [List.setIfInBounds_toArray, List.set_cons_zero, List.set_cons_succ]
  refine wpAnyH_done (by kernel_rfl) ?_ _
  refine NoPanic.normal ?_
  go_wp2_with fail
  go_ret
  exact ⟨rfl, HX.out.2.trans (hS2.mono HX.out.2.size)⟩
end Go.Proofs.Ytmfnhdflmnmooaa
namespace Go.Proofs.Ytmfnhdflmnmooaa
open Go.RowKit
set_option linter.unusedVariables false
set_option linter.unusedSimpArgs false
def sgZ (x : Int × Int × Int) : List Value := [.int .u64 x.1, .int .u64 x.2.1, .int .u64 x.2.2]
theorem sgZ_len (x : Int × Int × Int) : (sgZ x).length = 3 := rfl
theorem sloL_one (x : Slo) : ∀ u ∈ sloL x, u.oneCell' = true := by
  intro u hu
  simp only [sloL, List.mem_cons, List.not_mem_nil, or_false] at hu
  rcases hu with rfl | rfl | rfl | rfl | rfl | rfl | rfl | rfl | rfl <;> rfl
theorem epoL_one (x : Epo) : ∀ u ∈ epoL x, u.oneCell' = true := by
  intro u hu
  simp only [epoL, List.mem_cons, List.not_mem_nil, or_false] at hu
  rcases hu with rfl | rfl | rfl | rfl | rfl <;> rfl
theorem sgZ_one (x : Int × Int × Int) : ∀ u ∈ sgZ x, u.oneCell' = true := by
  intro u hu
  simp only [sgZ, List.mem_cons, List.not_mem_nil, or_false] at hu
  rcases hu with rfl | rfl | rfl <;> rfl
theorem tkL_one (x : Tk) : ∀ u ∈ tkL x, u.oneCell' = true := by
  intro u hu
  simp only [tkL, List.mem_cons, List.not_mem_nil, or_false] at hu
  rcases hu with rfl | rfl | rfl | rfl <;> rfl
/-- A list of twin's: the structs, the mark, in a block above n. -/
def Ls {α : Type} (n : Nat) (L : α → List Value) (sz : Nat) (v : Value) (W : World) (p : Option Addr) (k c : Nat) (l : List α) : Prop :=
  RV L sz W p l ∧ Mk W p k c sz v ∧ ∀ b o, p = some ⟨b, o, none⟩ → n < b ∧ b < W.heap.size
theorem Ls.stay {α : Type} {n sz k c : Nat} {L : α → List Value} {v : Value} {W W' : World} {p : Option Addr} {l : List α} (h : Ls n L sz v W p k c l) (s : Stay n W W') : Ls n L sz v W' p k c l :=
  ⟨h.1.stay s fun b o e => by have := (h.2.2 b o e).1; omega, h.2.1.stay s fun b o e => ⟨(h.2.2 b o e).2, by have := (h.2.2 b o e).1; omega⟩, fun b o e => ⟨(h.2.2 b o e).1, Nat.lt_of_lt_of_le (h.2.2 b o e).2 s.size⟩⟩
theorem Ls.own {α : Type} {n sz k c e B g : Nat} {L : α → List Value} (hL : ∀ x, (L x).length = sz) {v : Value} {W : World} {l : List α} {rest : List Value} (hl : l.length = k) (h : W.ownsRow B e sz (.slice (some ⟨g, 0, none⟩) (k + 1) c) (k + 1) (l.flatMap L ++ v :: rest)) (hB : n < B) : Ls n L sz v W (some ⟨g, 0, none⟩) k c l := by
  refine ⟨rv_own hL h, mk_own hL hl h, fun b o e => ?_⟩
  cases e
  exact ⟨Nat.lt_of_lt_of_le hB (h.lt g rfl).1, (h.lt g rfl).2⟩
abbrev mt0 : Array Value := #[.string ⟨#[]⟩, .string ⟨#[]⟩, .string ⟨#[]⟩, .string ⟨#[]⟩, .int .i64 0, .int .u64 0, .int .i64 0, .int .i64 0, .int .i64 0, .string ⟨#[]⟩, .string ⟨#[]⟩, .slice none 0 0, .slice none 0 0, .slice none 0 0, .bool false, .int .u64 0, .int .u64 0, .bool false, .int .i64 0, .int .u64 0, .int .u64 0, .int .i64 0, .int .i64 0, .bool false, .int .u64 0, .string ⟨#[]⟩, .slice none 0 0]
/-- The three variables of twin. -/
structure Twn (w W : World) (m n2 : Mt) : Prop where
  bx : Bx W w.heap.size m
  rs : W.heap[w.heap.size + 1]? = some (.cells mt0 36 (0, 0))
  bn : Bx W (w.heap.size + 2) n2
  bel : Below w.heap.size w W
  sz : w.heap.size + 3 ≤ W.heap.size
theorem Twn.stay {w W W' : World} {m n2 n3 : Mt} (h : Twn w W m n2) (s : Stay (w.heap.size + 2) W W') (hn : Bx W' (w.heap.size + 2) n3) : Twn w W' m n3 := by
  have := h.sz
  exact ⟨(s.block _ (by omega) (by omega)).trans h.bx, (s.block _ (by omega) (by omega)).trans h.rs, hn, h.bel.trans (s.below (by omega) (by omega)), Nat.le_trans h.sz s.size⟩
theorem bx_set {W : World} {b : Nat} {m n3 : Mt} {o : Nat} {v : Value} (h : Bx W b m) (he : (mtC m).setIfInBounds o v = mtC n3) : Bx (W.setCell ⟨b, o, none⟩ v) b n3 := by
  unfold Bx
  rw [heap_setCell_same W b o _ 36 v h, he]
theorem frozen_bx {W : World} {b o : Nat} {m : Mt} (h : Bx W b m) : W.frozen? ⟨b, o, none⟩ = false := frozen_of_row W b o _ 36 h
def setL : List Value → Nat → List Value → List Value
  | cur, _, [] => cur
  | cur, o, v :: r => setL (cur.set o v) (o + 1) r
theorem setL_at : ∀ (vs cur : List Value) (o : Nat), o + vs.length ≤ cur.length → setL cur o vs = cur.take o ++ vs ++ cur.drop (o + vs.length)
  | [], cur, o, h => by simp [setL]
  | v :: r, cur, o, h => by
    simp only [List.length_cons] at h
    rw [setL, setL_at r (cur.set o v) (o + 1) (by simp; omega)]
    rw [List.take_set, List.drop_set_of_lt (by omega), List.take_add_one, List.set_append_right _ _ (by simp; omega), List.length_take, Nat.min_eq_left (by omega), Nat.sub_self]
    rw [List.getElem?_eq_getElem (by omega)]
    simp
    congr 1
    omega
theorem setCells_heap (b t : Nat) : ∀ (vs : List Value) (o : Nat) (w : World) (cur : Array Value), w.heap[b]? = some (.cells cur t (0, 0)) → (w.setCells b o vs).heap[b]? = some (.cells (setL cur.toList o vs).toArray t (0, 0))
  | [], o, w, cur, h => by simpa [World.setCells, setL] using h
  | v :: r, o, w, cur, h => by
    have := setCells_heap b t r (o + 1) (w.setCell ⟨b, o, none⟩ v) _ (heap_setCell_same w b o cur t v h)
    simpa [World.setCells, setL] using this
theorem setCells_stay (b : Nat) : ∀ (vs : List Value) (o : Nat) (w : World), Stay b w (w.setCells b o vs)
  | [], o, w => Stay.refl b w
  | v :: r, o, w => ((Stay.refl b w).set o v).trans (setCells_stay b r (o + 1) _)
theorem mtC_one (m : Mt) : (mtC m).all (·.oneCell') = true := by simp [Value.oneCell']
theorem wpList_store_box {w : World} {ops : Array Oper} {rest : List Oper} {o : Oper} {a : Act} {Q : Exit → Act → World → Prop} (hgd : o.guard = none) (x y : Operand) (ho : o.op = .store 36 x y) (m : Mt) (b : Nat) (cur : Array Value) (hx : a.eval x = .pointer (some ⟨b, 0, none⟩)) (hy : a.eval y = .agg (mtC m))
    (hb : w.heap[b]? = some (.cells cur 36 (0, 0))) (hc : cur.size = 27) (h : ∀ u, Bx u b m → Stay b w u → wpList Try.prog ops Q rest (a.put o.dst undef) u) : wpList Try.prog ops Q (o :: rest) a w := by
  refine wpList_store_mid hgd 36 x y ho b 0 (mtC m) hx hy (fun j hj => ?_) (size36 m) (mtC_one m) (h _ ?_ (setCells_stay b _ 0 w))
  · rw [Nat.zero_add]
    refine ⟨?_, frozen_of_row w b j cur 36 hb⟩
    rw [cell_of_row w b j cur 36 (0, 0) hb]
    have hj' : j < 27 := hj
    simp [hc, hj']
  · unfold Bx
    rw [setCells_heap b 36 _ 0 w cur hb, setL_at _ _ _ (by simp [hc])]
    simp [hc]
theorem alloc36 (u : World) : (Instr.alloc 36 true (.tuple #[])).run Try.prog u = .ok (.pointer (some ⟨u.heap.size, 0, none⟩)) (u.alloc (.cells mt0 36)) := by go_simp
theorem wpList_alloc_box {w : World} {ops : Array Oper} {rest : List Oper} {o : Oper} {a : Act} {Q : Exit → Act → World → Prop} (hgd : o.guard = none) (ho : o.op = .alloc 36)
    (h : ∀ u b, u.heap[b]? = some (.cells mt0 36 (0, 0)) → Below w.heap.size w u → b = w.heap.size → u.heap.size = b + 1 → wpList Try.prog ops Q rest (a.put o.dst (.pointer (some ⟨b, 0, none⟩))) u) : wpList Try.prog ops Q (o :: rest) a w := by
  refine wpList_plain hgd fun K hK => ?_
  unfold Oper.wp execOp
  simp only [ho, Sem.run_bind, alloc36 w, Result.andThen_ok]
  exact hK _ _ (h _ _ (heap_alloc_new w _) ((Below.refl _ w).alloc (Nat.le_refl _) _) rfl (by simp))
abbrev mkA27 := (⟨501, 0, 0, 0, ⟨#[]⟩, ⟨#[]⟩, 0, 0, 0⟩ : Slo)
abbrev mkB27 := (⟨502, 0, 0, 0, ⟨#[]⟩, ⟨#[]⟩, 0, 0, 0⟩ : Slo)
theorem bs27_0 (u : World) : (Instr.buildSlice 27 0 #[]).run Try.prog u = .ok (.slice (some ⟨u.heap.size, 0, none⟩) 0 0) (u.alloc (.cells #[] 63)) := by
  go_simp
theorem fill27 : Instr.fill (fun i => some (i * 9, 9)) ((Array.range (2 * 9)).map ((Value.agg #[.int .i64 0, .int .i64 0, .int .i64 0, .int .i64 0, .string ⟨#[]⟩, .string ⟨#[]⟩, .int .i64 0, .int .i64 0, .int .i64 0]).cells[· % (Value.agg #[.int .i64 0, .int .i64 0, .int .i64 0, .int .i64 0, .string ⟨#[]⟩, .string ⟨#[]⟩, .int .i64 0, .int .i64 0, .int .i64 0]).cells.size]!)) [(0, .agg #[.int .i64 501, .int .i64 0, .int .i64 0, .int .i64 0, .string ⟨#[]⟩, .string ⟨#[]⟩, .int .i64 0, .int .i64 0, .int .i64 0]), (1, .agg #[.int .i64 502, .int .i64 0, .int .i64 0, .int .i64 0, .string ⟨#[]⟩, .string ⟨#[]⟩, .int .i64 0, .int .i64 0, .int .i64 0])] = some #[.int .i64 501, .int .i64 0, .int .i64 0, .int .i64 0, .string ⟨#[]⟩, .string ⟨#[]⟩, .int .i64 0, .int .i64 0, .int .i64 0, .int .i64 502, .int .i64 0, .int .i64 0, .int .i64 0, .string ⟨#[]⟩, .string ⟨#[]⟩, .int .i64 0, .int .i64 0, .int .i64 0] := by kernel_rfl
theorem bs27_2 (u : World) : (Instr.buildSlice 27 2 #[(0, .agg #[.int .i64 501, .int .i64 0, .int .i64 0, .int .i64 0, .string ⟨#[]⟩, .string ⟨#[]⟩, .int .i64 0, .int .i64 0, .int .i64 0]), (1, .agg #[.int .i64 502, .int .i64 0, .int .i64 0, .int .i64 0, .string ⟨#[]⟩, .string ⟨#[]⟩, .int .i64 0, .int .i64 0, .int .i64 0])]).run Try.prog u = .ok (.slice (some ⟨u.heap.size, 0, none⟩) 2 2) (u.alloc (.cells ([mkA27, mkB27].flatMap sloL).toArray 63)) := by
  obtain ⟨i, hi, hz0, hz1, hz2⟩ := info_parts info47
  refine run_buildSlice u 27 63 2 _ _ i _ Try.underlying27 hi hz0 (by rw [hz1]; decide) (by rw [hz1]; decide) ?_
  rw [hz1]
  exact fill27
theorem built27a : Try.prog.built 63 [(0, .int .i64 501)] = some #[.int .i64 501, .int .i64 0, .int .i64 0, .int .i64 0, .string ⟨#[]⟩, .string ⟨#[]⟩, .int .i64 0, .int .i64 0, .int .i64 0] := by kernel_rfl
theorem built27b : Try.prog.built 63 [(0, .int .i64 502)] = some #[.int .i64 502, .int .i64 0, .int .i64 0, .int .i64 0, .string ⟨#[]⟩, .string ⟨#[]⟩, .int .i64 0, .int .i64 0, .int .i64 0] := by kernel_rfl
abbrev mkA28 := (⟨501, ⟨#[]⟩, ⟨#[]⟩, ⟨#[]⟩, ⟨#[]⟩⟩ : Epo)
abbrev mkB28 := (⟨502, ⟨#[]⟩, ⟨#[]⟩, ⟨#[]⟩, ⟨#[]⟩⟩ : Epo)
theorem bs28_0 (u : World) : (Instr.buildSlice 28 0 #[]).run Try.prog u = .ok (.slice (some ⟨u.heap.size, 0, none⟩) 0 0) (u.alloc (.cells #[] 38)) := by
  go_simp
theorem fill28 : Instr.fill (fun i => some (i * 5, 5)) ((Array.range (2 * 5)).map ((Value.agg #[.int .u64 0, .string ⟨#[]⟩, .string ⟨#[]⟩, .string ⟨#[]⟩, .string ⟨#[]⟩]).cells[· % (Value.agg #[.int .u64 0, .string ⟨#[]⟩, .string ⟨#[]⟩, .string ⟨#[]⟩, .string ⟨#[]⟩]).cells.size]!)) [(0, .agg #[.int .u64 501, .string ⟨#[]⟩, .string ⟨#[]⟩, .string ⟨#[]⟩, .string ⟨#[]⟩]), (1, .agg #[.int .u64 502, .string ⟨#[]⟩, .string ⟨#[]⟩, .string ⟨#[]⟩, .string ⟨#[]⟩])] = some #[.int .u64 501, .string ⟨#[]⟩, .string ⟨#[]⟩, .string ⟨#[]⟩, .string ⟨#[]⟩, .int .u64 502, .string ⟨#[]⟩, .string ⟨#[]⟩, .string ⟨#[]⟩, .string ⟨#[]⟩] := by kernel_rfl
theorem bs28_2 (u : World) : (Instr.buildSlice 28 2 #[(0, .agg #[.int .u64 501, .string ⟨#[]⟩, .string ⟨#[]⟩, .string ⟨#[]⟩, .string ⟨#[]⟩]), (1, .agg #[.int .u64 502, .string ⟨#[]⟩, .string ⟨#[]⟩, .string ⟨#[]⟩, .string ⟨#[]⟩])]).run Try.prog u = .ok (.slice (some ⟨u.heap.size, 0, none⟩) 2 2) (u.alloc (.cells ([mkA28, mkB28].flatMap epoL).toArray 38)) := by
  obtain ⟨i, hi, hz0, hz1, hz2⟩ := info_parts info49
  refine run_buildSlice u 28 38 2 _ _ i _ Try.underlying28 hi hz0 (by rw [hz1]; decide) (by rw [hz1]; decide) ?_
  rw [hz1]
  exact fill28
theorem built28a : Try.prog.built 38 [(0, .int .u64 501)] = some #[.int .u64 501, .string ⟨#[]⟩, .string ⟨#[]⟩, .string ⟨#[]⟩, .string ⟨#[]⟩] := by kernel_rfl
theorem built28b : Try.prog.built 38 [(0, .int .u64 502)] = some #[.int .u64 502, .string ⟨#[]⟩, .string ⟨#[]⟩, .string ⟨#[]⟩, .string ⟨#[]⟩] := by kernel_rfl
abbrev mkA29 := ((0, 0, 501) : Int × Int × Int)
abbrev mkB29 := ((0, 0, 502) : Int × Int × Int)
theorem bs29_0 (u : World) : (Instr.buildSlice 29 0 #[]).run Try.prog u = .ok (.slice (some ⟨u.heap.size, 0, none⟩) 0 0) (u.alloc (.cells #[] 65)) := by
  go_simp
theorem fill29 : Instr.fill (fun i => some (i * 3, 3)) ((Array.range (2 * 3)).map ((Value.agg #[.int .u64 0, .int .u64 0, .int .u64 0]).cells[· % (Value.agg #[.int .u64 0, .int .u64 0, .int .u64 0]).cells.size]!)) [(0, .agg #[.int .u64 0, .int .u64 0, .int .u64 501]), (1, .agg #[.int .u64 0, .int .u64 0, .int .u64 502])] = some #[.int .u64 0, .int .u64 0, .int .u64 501, .int .u64 0, .int .u64 0, .int .u64 502] := by kernel_rfl
theorem bs29_2 (u : World) : (Instr.buildSlice 29 2 #[(0, .agg #[.int .u64 0, .int .u64 0, .int .u64 501]), (1, .agg #[.int .u64 0, .int .u64 0, .int .u64 502])]).run Try.prog u = .ok (.slice (some ⟨u.heap.size, 0, none⟩) 2 2) (u.alloc (.cells ([mkA29, mkB29].flatMap sgZ).toArray 65)) := by
  obtain ⟨i, hi, hz0, hz1, hz2⟩ := info_parts info51
  refine run_buildSlice u 29 65 2 _ _ i _ Try.underlying29 hi hz0 (by rw [hz1]; decide) (by rw [hz1]; decide) ?_
  rw [hz1]
  exact fill29
theorem built29a : Try.prog.built 65 [(2, .int .u64 501)] = some #[.int .u64 0, .int .u64 0, .int .u64 501] := by kernel_rfl
theorem built29b : Try.prog.built 65 [(2, .int .u64 502)] = some #[.int .u64 0, .int .u64 0, .int .u64 502] := by kernel_rfl
abbrev mkA34 := (⟨501, ⟨#[]⟩, none, 0, 0, ⟨#[]⟩⟩ : Tk)
abbrev mkB34 := (⟨502, ⟨#[]⟩, none, 0, 0, ⟨#[]⟩⟩ : Tk)
theorem bs34_0 (u : World) : (Instr.buildSlice 34 0 #[]).run Try.prog u = .ok (.slice (some ⟨u.heap.size, 0, none⟩) 0 0) (u.alloc (.cells #[] 61)) := by
  go_simp
theorem fill34 : Instr.fill (fun i => some (i * 4, 4)) ((Array.range (2 * 4)).map ((Value.agg #[.int .i64 0, .string ⟨#[]⟩, .slice none 0 0, .string ⟨#[]⟩]).cells[· % (Value.agg #[.int .i64 0, .string ⟨#[]⟩, .slice none 0 0, .string ⟨#[]⟩]).cells.size]!)) [(0, .agg #[.int .i64 501, .string ⟨#[]⟩, .slice none 0 0, .string ⟨#[]⟩]), (1, .agg #[.int .i64 502, .string ⟨#[]⟩, .slice none 0 0, .string ⟨#[]⟩])] = some #[.int .i64 501, .string ⟨#[]⟩, .slice none 0 0, .string ⟨#[]⟩, .int .i64 502, .string ⟨#[]⟩, .slice none 0 0, .string ⟨#[]⟩] := by kernel_rfl
theorem bs34_2 (u : World) : (Instr.buildSlice 34 2 #[(0, .agg #[.int .i64 501, .string ⟨#[]⟩, .slice none 0 0, .string ⟨#[]⟩]), (1, .agg #[.int .i64 502, .string ⟨#[]⟩, .slice none 0 0, .string ⟨#[]⟩])]).run Try.prog u = .ok (.slice (some ⟨u.heap.size, 0, none⟩) 2 2) (u.alloc (.cells ([mkA34, mkB34].flatMap tkL).toArray 61)) := by
  obtain ⟨i, hi, hz0, hz1, hz2⟩ := info_parts info45
  refine run_buildSlice u 34 61 2 _ _ i _ Try.underlying34 hi hz0 (by rw [hz1]; decide) (by rw [hz1]; decide) ?_
  rw [hz1]
  exact fill34
theorem built34a : Try.prog.built 61 [(0, .int .i64 501)] = some #[.int .i64 501, .string ⟨#[]⟩, .slice none 0 0, .string ⟨#[]⟩] := by kernel_rfl
theorem built34b : Try.prog.built 61 [(0, .int .i64 502)] = some #[.int .i64 502, .string ⟨#[]⟩, .slice none 0 0, .string ⟨#[]⟩] := by kernel_rfl
theorem bs59_0 (u : World) : (Instr.buildSlice 59 0 #[]).run Try.prog u = .ok (.slice (some ⟨u.heap.size, 0, none⟩) 0 0) (u.alloc (.cells #[] 3)) := by
  go_simp
/-- A literal's block of structs. -/
theorem rv_lit {α : Type} {L : α → List Value} {sz : Nat} (hL : ∀ x, (L x).length = sz) {w : World} {b e : Nat} {l : List α} (h : w.heap[b]? = some (.cells (l.flatMap L).toArray e (0, 0))) : RV L sz w (some ⟨b, 0, none⟩) l := by
  refine .inr ⟨b, 0, rfl, (Array.getElem?_eq_some_iff.1 h).1, fun i y hy j u hu => ?_⟩
  simp only [World.cell?]
  rw [h]
  have hj : j < sz := by
    rcases Nat.lt_or_ge j sz with q | q
    · exact q
    · rw [List.getElem?_eq_none (by rw [hL]; exact q)] at hu; cases hu
  have key : ∀ (l : List α) (i : Nat), l[i]? = some y → (l.flatMap L)[i * sz + j]? = some u := by
    intro l
    induction l with
    | nil => intro i q; simp at q
    | cons x l ih =>
      intro i q
      rw [List.flatMap_cons]
      cases i with
      | zero =>
        simp at q
        subst q
        rw [List.getElem?_append_left (by rw [hL]; omega)]
        simpa using hu
      | succ k =>
        have := ih k (by simpa using q)
        rw [List.getElem?_append_right (by rw [hL, Nat.succ_mul]; omega), hL, show (k + 1) * sz + j - sz = k * sz + j by rw [Nat.succ_mul]; omega]
        exact this
  simpa using key l i hy
/-- A row that is not written stays. -/
theorem own_stay {w w' : World} {base e size n k : Nat} {v : Value} {xs : List Value} (h : w.ownsRow base e size v n xs) (s : Stay k w w') (hk : v.ownBlock ≠ some k) : w'.ownsRow base e size v n xs :=
  h.kept (row := some k) ⟨s.os, s.tape, s.output, s.size, fun j hj hn => s.block j hj (fun e => hn (by rw [e]))⟩ (by cases hv : v.ownBlock with | none => simp | some b => right; rw [hv] at hk; exact hk)
theorem own_grown {w w' : World} {base e size n : Nat} {row : Option Nat} {v : Value} {xs : List Value} (h : w.ownsRow base e size v n xs) (s : w.grownBy w' row) (hk : v.ownBlock = none ∨ v.ownBlock ≠ row) : w'.ownsRow base e size v n xs := h.kept s hk
theorem own_ne {w : World} {base e size n k : Nat} {v : Value} {xs : List Value} (h : w.ownsRow base e size v n xs) (hk : k < base) : v.ownBlock ≠ some k := by
  intro q
  have := (h.lt k q).1
  omega
/-- Ints, one by one. -/
def inL (z : Int) : List Value := [.int .i64 z]
theorem inL_len (z : Int) : (inL z).length = 1 := rfl
theorem inL_one (z : Int) : ∀ u ∈ inL z, u.oneCell' = true := by
  intro u hu
  simp only [inL, List.mem_cons, List.not_mem_nil, or_false] at hu
  rw [hu]; rfl
theorem inL_cells (zs : List Int) : zs.flatMap inL = cellsI zs := by
  induction zs with
  | nil => rfl
  | cons z zs ih => simp [inL, cellsI] at ih ⊢; exact ih
theorem rv_view {w : World} {p : Option Addr} {n c : Nat} {zs : List Int} (h : View w (.slice p n c) zs) : zs.length = n ∧ RV inL 1 w p zs ∧ (p = none → c = 0) ∧ n ≤ c ∧ c ≤ maxLen := by
  obtain ⟨a, cap, hv, h1, h2, h3, h4⟩ := h
  simp only [Value.slice.injEq] at hv
  obtain ⟨rfl, rfl, rfl⟩ := hv
  refine ⟨rfl, ?_, h3, h1, h2⟩
  rcases h4 with h4 | ⟨b, off, rfl, hc⟩
  · exact .inl h4
  · by_cases h0 : zs = []
    · exact .inl h0
    · have hpos : 0 < zs.length := List.length_pos_iff.2 h0
      refine .inr ⟨b, off, rfl, World.block_lt_of_cell? w _ (hc 0 hpos), fun i x hx j u hu => ?_⟩
      have hi : i < zs.length := (List.getElem?_eq_some_iff.1 hx).1
      cases j with
      | zero =>
        simp only [inL, List.getElem?_cons_zero, Option.some.injEq] at hu
        subst hu
        have := hc i hi
        rw [List.getD_eq_getElem?_getD, hx] at this
        simpa using this
      | succ j => simp [inL] at hu
end Go.Proofs.Ytmfnhdflmnmooaa
