import Derived.Test.YtmfnhdflmnmooaaNxm
import Derived.Deep.MidRow
namespace Go.Proofs.Ytmfnhdflmnmooaa
open Go.RowKit
set_option linter.unusedVariables false
set_option linter.unusedSimpArgs false
/-- Metadata as they lie. -/
structure MetaOk (w : World) (m : Mt) (hot : Nat) (EL : List Epo) (f : Nat → Int × Int × Int) : Prop where
  hC : 0 ≤ m.C
  hC9 : m.C ≤ 18446744073709551615
  hh : m.hot = (hot : Int)
  hz : m.az ≤ 9223372036854775807
  hsz : m.sum.size ≤ 9223372036854775807
  hc1 : m.gn ≤ m.gc
  hc2 : m.gc ≤ 9223372036854775807
  hgn : m.gn ≤ 1000000000000000
  hen : EL.length = m.en
  hn0 : m.en ≤ 1954687338268
  e1 : RV epoL 5 w m.ep EL
  hSg : SegV w (.slice m.gp m.gn m.gc) m.gn f
theorem MetaOk.below {w w' : World} {m : Mt} {hot : Nat} {EL : List Epo} {f : Nat → Int × Int × Int} (h : MetaOk w m hot EL f) (hb : Below w.heap.size w w') : MetaOk w' m hot EL f := ⟨h.hC, h.hC9, h.hh, h.hz, h.hsz, h.hc1, h.hc2, h.hgn, h.hen, h.hn0, h.e1.below hb, h.hSg.below hb⟩
/-- The data's sectors. -/
def secs (m : Mt) : Nat := (m.C - (2 * m.H + m.K) / m.U).toNat
/-- Can metadata be worked on? -/
def WorkP (m : Mt) (hot : Nat) (EL : List Epo) (f : Nat → Int × Int × Int) : Prop :=
  mayB m.U m.C m.H m.K = true ∧ areaB m.U m.H m.K m.ao m.az m.mode hot = true ∧ m.done ≤ secs m ∧ stepB m hot (secs m) = true ∧ JustP m.gn f (Sx.kept [Sx.segX (secs m) (rM m), Sx.segY (secs m) (rM m)]) ∧ m.fr < m.to ∧ epN EL m.fr m.en = 1 ∧ epN EL m.to m.en = 1
theorem secs_of {m : Mt} (hm : mayB m.U m.C m.H m.K = true) : m.C - (2 * m.H + m.K) / m.U = (secs m : Nat) ∧ 1 ≤ secs m ∧ secs m ≤ 4294967296 := by
  obtain ⟨hu, hh, k1, k2, _, hc, hlt⟩ := mayB_all hm
  have hr := headB_range hh
  unfold secs
  rcases unitB_cases hu with h | h | h | h <;> rw [h] at hlt ⊢ <;> omega
theorem work_ok (m : Mt) (hot : Nat) (EL : List Epo) (f : Nat → Int × Int × Int) (w : World) (h : MetaOk w m hot EL f) : Calls Try.prog 37 #[.agg (mtC m)] w fun e w' => ∃ b : Bool, e = .returned (.bool b) ∧ (b = true ↔ WorkP m hot EL f) ∧ Below w.heap.size w w' := by
  by_cases hm : mayB m.U m.C m.H m.K = true
  · obtain ⟨n1, n2, n3⟩ := secs_of hm
    by_cases ha : areaB m.U m.H m.K m.ao m.az m.mode hot = true
    · by_cases hd : m.done ≤ secs m
      · by_cases hst : stepB m hot (secs m) = true
        · by_cases hJ : JustP m.gn f (Sx.kept [Sx.segX (secs m) (rM m), Sx.segY (secs m) (rM m)])
          · by_cases hft : m.fr < m.to
            · by_cases hef : epN EL m.fr m.en = 1
              · refine (work_7 m h.hC w hot (secs m) EL f h.hh h.hz n1 n3 h.hsz h.hc1 h.hc2 h.hen h.hn0 h.e1 h.hSg hm ha hd hst hJ hft hef).mono ?_
                rintro e w' ⟨he, hb⟩
                exact ⟨_, he, by rw [decide_eq_true_iff]; exact ⟨fun q => ⟨hm, ha, hd, hst, hJ, hft, hef, q⟩, fun q => q.2.2.2.2.2.2.2⟩, hb⟩
              · refine (work_6 m h.hC w hot (secs m) EL f h.hh h.hz n1 n3 h.hsz h.hc1 h.hc2 h.hen h.hn0 h.e1 h.hSg hm ha hd hst hJ hft hef).mono ?_
                rintro e w' ⟨he, hb⟩
                exact ⟨false, he, ⟨(fun q => by cases q), fun q => absurd q.2.2.2.2.2.2.1 hef⟩, hb⟩
            · refine (work_5 m h.hC w hot (secs m) EL f h.hh h.hz n1 n3 h.hsz h.hc1 h.hc2 h.hen h.hn0 h.e1 h.hSg hm ha hd hst hJ hft).mono ?_
              rintro e w' ⟨he, hb⟩
              exact ⟨false, he, ⟨(fun q => by cases q), fun q => absurd q.2.2.2.2.2.1 hft⟩, hb⟩
          · refine (work_4 m h.hC w hot (secs m) EL f h.hh h.hz n1 n3 h.hsz h.hc1 h.hc2 h.hen h.hn0 h.e1 h.hSg hm ha hd hst hJ).mono ?_
            rintro e w' ⟨he, hb⟩
            exact ⟨false, he, ⟨(fun q => by cases q), fun q => absurd q.2.2.2.2.1 hJ⟩, hb⟩
        · refine (work_3 m h.hC w hot (secs m) EL f h.hh h.hz n1 n3 h.hsz h.hc1 h.hc2 h.hen h.hn0 h.e1 h.hSg hm ha hd hst).mono ?_
          rintro e w' ⟨he, hb⟩
          exact ⟨false, he, ⟨(fun q => by cases q), fun q => absurd q.2.2.2.1 hst⟩, hb⟩
      · refine (work_2 m h.hC w hot (secs m) EL f h.hh h.hz n1 n3 h.hsz h.hc1 h.hc2 h.hen h.hn0 h.e1 h.hSg hm ha hd).mono ?_
        rintro e w' ⟨he, hb⟩
        exact ⟨false, he, ⟨(fun q => by cases q), fun q => absurd q.2.2.1 hd⟩, hb⟩
    · refine (work_1 m h.hC w hot h.hh h.hz hm (by simpa using ha)).mono ?_
      rintro e w' ⟨he, hb⟩
      exact ⟨false, he, ⟨(fun q => by cases q), fun q => absurd q.2.1 ha⟩, hb⟩
  · refine (work_0 m h.hC w (by simpa using hm)).mono ?_
    rintro e w' ⟨he, hb⟩
    exact ⟨false, he, ⟨(fun q => by cases q), fun q => absurd q.1 hm⟩, hb⟩
theorem rwork_ok (m : Mt) (hot : Nat) (EL : List Epo) (f : Nat → Int × Int × Int) (w : World) (h : MetaOk w m hot EL f) (hon : m.on = true) : Calls Try.prog 39 #[.agg (mtC m)] w fun e w' => ∃ b : Bool, e = .returned (.bool b) ∧ (b = true ↔ WorkP m hot EL f) ∧ Below w.heap.size w w' := by
  have hn15 : m.en ≤ 1000000000000000 := Nat.le_trans h.hn0 (by omega)
  by_cases hm : mayB m.U m.C m.H m.K = true
  · obtain ⟨n1, n2, n3⟩ := secs_of hm
    by_cases ha : areaB m.U m.H m.K m.ao m.az m.mode hot = true
    · by_cases hft : m.fr < m.to
      · by_cases hef : epN EL m.fr m.en = 1
        · by_cases het : epN EL m.to m.en = 1
          · by_cases hd : m.done ≤ secs m
            · by_cases hJ : JustP m.gn f (Sx.kept [Sx.segX (secs m) (rM m), Sx.segY (secs m) (rM m)])
              · have fin : ∀ b : Bool, b = stepB m hot (secs m) → (b = true ↔ WorkP m hot EL f) := fun b hb => by
                  rw [hb]
                  exact ⟨fun q => ⟨hm, ha, hd, q, hJ, hft, hef, het⟩, fun q => q.2.2.2.1⟩
                cases hact : m.act
                · refine (rwork_7 m h.hC w h.hC9 hon hact hot (secs m) EL f h.hh h.hz n1 n2 n3 h.hsz h.hgn h.hen hn15 h.e1 h.hSg hm ha hft hef het hd hJ).mono ?_
                  rintro e w' ⟨he, hb⟩
                  exact ⟨_, he, fin _ rfl, hb⟩
                · refine (rwork_8 m h.hC w h.hC9 hon hact hot (secs m) EL f h.hh h.hz n1 n2 n3 h.hsz h.hgn h.hen hn15 h.e1 h.hSg hm ha hft hef het hd hJ).mono ?_
                  rintro e w' ⟨he, hb⟩
                  exact ⟨_, he, fin _ rfl, hb⟩
              · refine (rwork_6 m h.hC w h.hC9 hon hot (secs m) EL f h.hh h.hz n1 n2 n3 h.hsz h.hgn h.hen hn15 h.e1 h.hSg hm ha hft hef het hd hJ).mono ?_
                rintro e w' ⟨he, hb⟩
                exact ⟨false, he, ⟨(fun q => by cases q), fun q => absurd q.2.2.2.2.1 hJ⟩, hb⟩
            · refine (rwork_5 m h.hC w h.hC9 hon hot (secs m) EL f h.hh h.hz n1 n2 n3 h.hsz h.hgn h.hen hn15 h.e1 h.hSg hm ha hft hef het hd).mono ?_
              rintro e w' ⟨he, hb⟩
              exact ⟨false, he, ⟨(fun q => by cases q), fun q => absurd q.2.2.1 hd⟩, hb⟩
          · refine (rwork_4 m h.hC w h.hC9 hon hot (secs m) EL f h.hh h.hz n1 n2 n3 h.hsz h.hgn h.hen hn15 h.e1 h.hSg hm ha hft hef het).mono ?_
            rintro e w' ⟨he, hb⟩
            exact ⟨false, he, ⟨(fun q => by cases q), fun q => absurd q.2.2.2.2.2.2.2 het⟩, hb⟩
        · refine (rwork_3 m h.hC w h.hC9 hon hot (secs m) EL f h.hh h.hz n1 n2 n3 h.hsz h.hgn h.hen hn15 h.e1 h.hSg hm ha hft hef).mono ?_
          rintro e w' ⟨he, hb⟩
          exact ⟨false, he, ⟨(fun q => by cases q), fun q => absurd q.2.2.2.2.2.2.1 hef⟩, hb⟩
      · refine (rwork_2 m h.hC w h.hC9 hon hot (secs m) EL f h.hh h.hz n1 n2 n3 h.hsz h.hgn h.hen hn15 h.e1 h.hSg hm ha hft).mono ?_
        rintro e w' ⟨he, hb⟩
        exact ⟨false, he, ⟨(fun q => by cases q), fun q => absurd q.2.2.2.2.2.1 hft⟩, hb⟩
    · refine (rwork_1 m h.hC w h.hC9 hot h.hh h.hz hm (by simpa using ha)).mono ?_
      rintro e w' ⟨he, hb⟩
      exact ⟨false, he, ⟨(fun q => by cases q), fun q => absurd q.2.1 ha⟩, hb⟩
  · refine (rwork_0 m h.hC w h.hC9 (by simpa using hm)).mono ?_
    rintro e w' ⟨he, hb⟩
    exact ⟨false, he, ⟨(fun q => by cases q), fun q => absurd q.1 hm⟩, hb⟩
/-- Next's answer: at, count, error. -/
def NextP (m : Mt) (hot : Nat) (EL : List Epo) (f : Nat → Int × Int × Int) (a n : Nat) (e : Int) : Prop :=
  (m.on = false ∧ a = 0 ∧ n = 0 ∧ e = 131) ∨ (m.on = true ∧ ¬ WorkP m hot EL f ∧ a = 0 ∧ n = 0 ∧ e = 2) ∨ (m.on = true ∧ WorkP m hot EL f ∧ a = (if m.back then secs m - m.done - min hot (secs m - m.done) else m.done) ∧ n = min hot (secs m - m.done) ∧ e = 0)
theorem NextP.one {m : Mt} {hot : Nat} {EL : List Epo} {f : Nat → Int × Int × Int} {a n a' n' : Nat} {e e' : Int} (h : NextP m hot EL f a n e) (k : NextP m hot EL f a' n' e') : a = a' ∧ n = n' ∧ e = e' := by
  rcases h with ⟨h1, h2, h3, h4⟩ | ⟨h1, h2, h3, h4, h5⟩ | ⟨h1, h2, h3, h4, h5⟩
  · rcases k with ⟨k1, k2, k3, k4⟩ | ⟨k1, _⟩ | ⟨k1, _⟩
    · exact ⟨h2.trans k2.symm, h3.trans k3.symm, h4.trans k4.symm⟩
    · rw [h1] at k1; cases k1
    · rw [h1] at k1; cases k1
  · rcases k with ⟨k1, _⟩ | ⟨k1, k2, k3, k4, k5⟩ | ⟨k1, k2, _⟩
    · rw [h1] at k1; cases k1
    · exact ⟨h3.trans k3.symm, h4.trans k4.symm, h5.trans k5.symm⟩
    · exact absurd k2 h2
  · rcases k with ⟨k1, _⟩ | ⟨k1, k2, _⟩ | ⟨k1, k2, k3, k4, k5⟩
    · rw [h1] at k1; cases k1
    · exact absurd h2 k2
    · exact ⟨h3.trans k3.symm, h4.trans k4.symm, h5.trans k5.symm⟩
theorem Bx.range {W : World} {b : Nat} {m : Mt} (h : Bx W b m) : W.rangeAt b 0 (mtC m).toList := fun j u hj => by
  rw [Nat.zero_add]
  exact h.c j u (by simpa using hj)
set_option maxHeartbeats 4000000 in
set_option maxRecDepth 100000 in
theorem next_off (m : Mt) (w : World) (hon : m.on = false) : Calls Try.prog 14 #[.agg (mtC m)] w fun e w' => Hid (e = .returned (.tuple #[.int .u64 (0 : Nat), .int .u64 (0 : Nat), .int .i64 131]) ∧ Below w.heap.size w w') := by
  have HX : Hid (Bx (w.alloc (.cells (mtC m) 36)) w.heap.size m ∧ Below w.heap.size w (w.alloc (.cells (mtC m) 36))) := ⟨World.alloc_heap_new w _, below_alloc1 _ _⟩
  have hon2 : Hid (m.on = false) := hon
  clear hon
  go_enter Try.func14, Try.ntmps14
  go_upto_region 1 with fail
  generalize (w.alloc (.cells (mtC m) 36)) = w0 at HX ⊢
  have y14 : w0.cell? ⟨w.heap.size, 14, none⟩ = some (.bool false) := by have q := HX.out.1.c 14 (.bool m.on) rfl; rw [hon2.out] at q; exact q
  go_wp2
  go_ret3
  exact ⟨rfl, HX.out.2⟩
set_option maxHeartbeats 4000000 in
set_option maxRecDepth 100000 in
theorem next_bad (m : Mt) (hot : Nat) (EL : List Epo) (f : Nat → Int × Int × Int) (w : World) (h : MetaOk w m hot EL f) (hon : m.on = true) (hw : ¬ WorkP m hot EL f) : Calls Try.prog 14 #[.agg (mtC m)] w fun e w' => Hid (e = .returned (.tuple #[.int .u64 (0 : Nat), .int .u64 (0 : Nat), .int .i64 2]) ∧ Below w.heap.size w w') := by
  have HX : Hid (Bx (w.alloc (.cells (mtC m) 36)) w.heap.size m ∧ Below w.heap.size w (w.alloc (.cells (mtC m) 36))) := ⟨World.alloc_heap_new w _, below_alloc1 _ _⟩
  have HC : Hid (Calls Try.prog 37 #[.agg (mtC m)] (w.alloc (.cells (mtC m) 36)) fun e w' => Hid (e = .returned (.bool false) ∧ Below (w.alloc (.cells (mtC m) 36)).heap.size (w.alloc (.cells (mtC m) 36)) w')) := by
    refine (work_ok m hot EL f (w.alloc (.cells (mtC m) 36)) (h.below (below_alloc1 _ _))).mono ?_
    rintro e w' ⟨b, he, hb, hB⟩
    refine ⟨?_, hB⟩
    cases b
    · exact he
    · exact absurd (hb.1 rfl) hw
  have hon2 : Hid (m.on = true) := hon
  clear hon h hw
  go_enter Try.func14, Try.ntmps14
  go_upto_region 1 with fail
  generalize (w.alloc (.cells (mtC m) 36)) = w0 at HX HC ⊢
  have y14 : w0.cell? ⟨w.heap.size, 14, none⟩ = some (.bool true) := by have q := HX.out.1.c 14 (.bool m.on) rfl; rw [hon2.out] at q; exact q
  go_wp2_with (first | (go_at_call 37; refine HC.out.mono ?_; intro e1 w1 hh; obtain ⟨he, hb1⟩ := hh.out; subst he) | (refine wpList_load_mid (by rfl) 36 (.tmp 1) (by rfl) w.heap.size 0 (by rfl) (mtC m).toList _ HX.out.1.range Try.underlying36 rfl (size36 m) ?_))
  go_ret3
  exact ⟨rfl, HX.out.2.trans (hb1.mono HX.out.2.size)⟩
set_option maxHeartbeats 4000000 in
set_option maxRecDepth 100000 in
theorem next_good (m : Mt) (hot : Nat) (EL : List Epo) (f : Nat → Int × Int × Int) (w : World) (h : MetaOk w m hot EL f) (hon : m.on = true) (hw : WorkP m hot EL f) : Calls Try.prog 14 #[.agg (mtC m)] w fun e w' => Hid (e = .returned (.tuple #[.int .u64 ((if m.back then secs m - m.done - min hot (secs m - m.done) else m.done : Nat) : Int), .int .u64 ((min hot (secs m - m.done) : Nat) : Int), .int .i64 0]) ∧ Below w.heap.size w w') := by
  have HX : Hid (Bx (w.alloc (.cells (mtC m) 36)) w.heap.size m ∧ Below w.heap.size w (w.alloc (.cells (mtC m) 36))) := ⟨World.alloc_heap_new w _, below_alloc1 _ _⟩
  have HC : Hid (Calls Try.prog 37 #[.agg (mtC m)] (w.alloc (.cells (mtC m) 36)) fun e w' => Hid (e = .returned (.bool true) ∧ Below (w.alloc (.cells (mtC m) 36)).heap.size (w.alloc (.cells (mtC m) 36)) w')) := by
    refine (work_ok m hot EL f (w.alloc (.cells (mtC m) 36)) (h.below (below_alloc1 _ _))).mono ?_
    rintro e w' ⟨b, he, hb, hB⟩
    refine ⟨?_, hB⟩
    rw [he, hb.2 hw]
  obtain ⟨n1, n2, n3⟩ := secs_of hw.1
  have hm := hw.1
  obtain ⟨qu, qh, k4, k2, _, qc, qlt⟩ := mayB_all hm
  have hr := headB_range qh
  have h1 : 0 ≤ m.H := by omega
  have h2 : m.H ≤ 4194304 := hr.2
  have k1 : 0 ≤ m.K := by omega
  have HSec : Hid (∀ u, Calls Try.prog 25 #[.agg #[.int .i64 m.U, .int .u64 m.C, .int .i64 m.H, .int .i64 m.K]] u fun e w' => Hid (e = .returned (.int .u64 (secs m : Nat)) ∧ Below u.heap.size u w')) := fun u => by
    have q := sectors_ok m.U m.C m.H m.K u qu h1 h2 k1 k2 (by omega) qc
    rw [n1] at q
    exact q
  have HHz : Hid (∀ u, Calls Try.prog 38 #[.int .u64 (secs m : Nat), .agg (roM m)] u fun e w' => Hid (e = .returned (.tuple #[.int .u64 ((if m.back then secs m - m.done - min hot (secs m - m.done) else m.done : Nat) : Int), .int .u64 ((min hot (secs m - m.done) : Nat) : Int)]) ∧ Below u.heap.size u w')) := fun u => by
    rw [show roM m = roA m.on m.fr m.to m.back m.mode hot m.done m.ao m.az m.act m.cnt m.sum by simp [roM, roA, h.hh]]
    exact hotz_ok m.on m.fr m.to m.back m.mode hot m.done m.ao m.az m.act m.cnt m.sum (secs m) n3 hw.2.2.1 u
  have hon2 : Hid (m.on = true) := hon
  generalize ((if m.back then secs m - m.done - min hot (secs m - m.done) else m.done : Nat) : Int) = aa at *
  generalize ((min hot (secs m - m.done) : Nat) : Int) = bb at *
  generalize secs m = N at *
  clear hon h hw hm qu qh qc qlt hr n1 n2 n3 h1 h2 k1 k2 k4
  go_enter Try.func14, Try.ntmps14
  go_upto_region 1 with fail
  generalize (w.alloc (.cells (mtC m) 36)) = wz at HX HC ⊢
  have y14 : wz.cell? ⟨w.heap.size, 14, none⟩ = some (.bool true) := by have q := HX.out.1.c 14 (.bool m.on) rfl; rw [hon2.out] at q; exact q
  go_upto_region 5 with (first | (go_at_call 37; refine HC.out.mono ?_; intro e1 w0 hh; obtain ⟨he, hb1⟩ := hh.out; subst he) | (refine wpList_load_mid (by rfl) 36 (.tmp 1) (by rfl) w.heap.size 0 (by rfl) (mtC m).toList _ HX.out.1.range Try.underlying36 rfl (size36 m) ?_))
  have HB0 : Hid (Bx w0 w.heap.size m ∧ Below w.heap.size w w0) := ⟨HX.out.1.below hb1, HX.out.2.trans (hb1.mono HX.out.2.size)⟩
  clear HX hb1 hh HC y14 hon2
  have hS0 : Below w0.heap.size w0 w0.drew := (Below.refl _ _).drew
  have hrr : ∀ u, Below w0.heap.size w0 u → u.rangeAt w.heap.size 14 (roM m).toList := fun u hu j v hj => (HB0.out.1.below hu).c (14 + j) v (by
    match j, hj with
    | 0, hj => exact hj
    | 1, hj => exact hj
    | 2, hj => exact hj
    | 3, hj => exact hj
    | 4, hj => exact hj
    | 5, hj => exact hj
    | 6, hj => exact hj
    | 7, hj => exact hj
    | 8, hj => exact hj
    | 9, hj => exact hj
    | 10, hj => exact hj
    | 11, hj => exact hj
    | n + 12, hj => simp at hj)
  have hrs : ∀ u, Below w0.heap.size w0 u → u.rangeAt w.heap.size 4 [.int .i64 m.U, .int .u64 m.C, .int .i64 m.H, .int .i64 m.K] := fun u hu j v hj => (HB0.out.1.below hu).c (4 + j) v (by
    match j, hj with
    | 0, hj => exact hj
    | 1, hj => exact hj
    | 2, hj => exact hj
    | 3, hj => exact hj
    | n + 4, hj => simp at hj)
  refine wp_region_noPanic ?_
  refine wp_region_held_drew (S := fun u => Below w0.heap.size w0 u) (by kernel_rfl) (hS0) (fun _ => ?_)
  refine takeH_at 0 17 (.pointer (some ⟨w.heap.size, 4, none⟩)) rfl rfl (by kernel_rfl) (by kernel_rfl) (by kernel_rfl) (fun _ _ _ h => h) (hS0) (Or.inl ⟨by kernel_rfl, fun w' hS' => by go_simp⟩) ?_
  simp only [List.setIfInBounds_toArray, List.set_cons_zero, List.set_cons_succ]
  refine takeH_at 1 18 (.agg #[.int .i64 m.U, .int .u64 m.C, .int .i64 m.H, .int .i64 m.K]) rfl rfl (by kernel_rfl) (by kernel_rfl) (by kernel_rfl) (fun _ _ _ h => h) (hS0) (yieldsIf_load_mid (by kernel_rfl) 24 (.tmp 17) rfl w.heap.size 4 rfl [.int .i64 m.U, .int .u64 m.C, .int .i64 m.H, .int .i64 m.K] _ hrs Try.underlying24 rfl (by kernel_rfl)) ?_
  simp only [List.setIfInBounds_toArray, List.set_cons_zero, List.set_cons_succ]
  refine takeH_at 3 20 (.pointer (some ⟨w.heap.size, 14, none⟩)) rfl rfl (by kernel_rfl) (by kernel_rfl) (by kernel_rfl) (fun _ _ _ h => h) (hS0) (Or.inl ⟨by kernel_rfl, fun w' hS' => by go_simp⟩) ?_
  simp only [List.setIfInBounds_toArray, List.set_cons_zero, List.set_cons_succ]
  refine takeH_at 4 21 (.agg (roM m)) rfl rfl (by kernel_rfl) (by kernel_rfl) (by kernel_rfl) (fun _ _ _ h => h) (hS0) (yieldsIf_load_mid (by kernel_rfl) 33 (.tmp 20) rfl w.heap.size 14 rfl (roM m).toList _ hrr Try.underlying33 rfl (by kernel_rfl)) ?_
  simp only [List.setIfInBounds_toArray, List.set_cons_zero, List.set_cons_succ]
  refine wpAnyH_ready (rs := [2]) (by kernel_rfl) (by simp) ?_
  refine AllReadyH.cons rfl (fun Kx hK => ?_) AllReadyH.nil
  go_simp
  refine (HSec.out _).mono ?_
  intro e1 q1 hh
  obtain ⟨he, hq1⟩ := hh.out
  subst he
  clear hh
  have hS1 : Below w0.heap.size w0 q1 := (hS0).trans (hq1.mono (hS0).size)
  go_wp2_with fail
  refine hK.out _ _ hS1 (fun _ => ?_)
  clear hK Kx
  try simp only [Act.put, List.setIfInBounds_toArray, List.set_cons_zero, List.set_cons_succ]
  refine wpAnyH_ready (rs := [5]) (by kernel_rfl) (by simp) ?_
  refine AllReadyH.cons rfl (fun Kx hK => ?_) AllReadyH.nil
  go_simp
  refine (HHz.out _).mono ?_
  intro e1 q2 hh
  obtain ⟨he, hq2⟩ := hh.out
  subst he
  clear hh
  have hS2 : Below w0.heap.size w0 q2 := (hS1).trans (hq2.mono (hS1).size)
  go_wp2_with fail
  refine hK.out _ _ hS2 (fun _ => ?_)
  clear hK Kx
  try simp only [Act.put, List.setIfInBounds_toArray, List.set_cons_zero, List.set_cons_succ]
  refine takeH_at 6 16 (.tuple #[.int .u64 aa, .int .u64 bb]) rfl rfl (by kernel_rfl) (by kernel_rfl) (by kernel_rfl) (fun _ _ _ h => h) (hS2) (Or.inl ⟨by kernel_rfl, fun w' hS' => by go_simp⟩) ?_
  simp only [List.setIfInBounds_toArray, List.set_cons_zero, List.set_cons_succ]
  refine takeH_at 7 23 (.int .u64 aa) rfl rfl (by kernel_rfl) (by kernel_rfl) (by kernel_rfl) (fun _ _ _ h => h) (hS2) (Or.inl ⟨by kernel_rfl, fun w' hS' => by go_simp⟩) ?_
  simp only [List.setIfInBounds_toArray, List.set_cons_zero, List.set_cons_succ]
  refine takeH_at 8 24 (.int .u64 bb) rfl rfl (by kernel_rfl) (by kernel_rfl) (by kernel_rfl) (fun _ _ _ h => h) (hS2) (Or.inl ⟨by kernel_rfl, fun w' hS' => by go_simp⟩) ?_
  simp only [List.setIfInBounds_toArray, List.set_cons_zero, List.set_cons_succ]
  refine takeH_at 9 5 (.int .u64 aa) rfl rfl (by kernel_rfl) (by kernel_rfl) (by kernel_rfl) (fun _ _ _ h => h) (hS2) (Or.inl ⟨by kernel_rfl, fun w' hS' => by go_simp⟩) ?_
  simp only [List.setIfInBounds_toArray, List.set_cons_zero, List.set_cons_succ]
  refine takeH_at 10 6 (.int .u64 bb) rfl rfl (by kernel_rfl) (by kernel_rfl) (by kernel_rfl) (fun _ _ _ h => h) (hS2) (Or.inl ⟨by kernel_rfl, fun w' hS' => by go_simp⟩) ?_
  simp only [List.setIfInBounds_toArray, List.set_cons_zero, List.set_cons_succ]
  refine wpAnyH_done (by kernel_rfl) ?_ _
  refine NoPanic.normal ?_
  go_wp2_with fail
  go_ret3
  exact ⟨rfl, HB0.out.2.trans (hS2.mono HB0.out.2.size)⟩
theorem next_ok (m : Mt) (hot : Nat) (EL : List Epo) (f : Nat → Int × Int × Int) (w : World) (h : MetaOk w m hot EL f) : Calls Try.prog 14 #[.agg (mtC m)] w fun e w' => ∃ (a n : Nat) (c : Int), e = .returned (.tuple #[.int .u64 (a : Nat), .int .u64 (n : Nat), .int .i64 c]) ∧ NextP m hot EL f a n c ∧ Below w.heap.size w w' := by
  cases hon : m.on
  · refine (next_off m w hon).mono ?_
    intro e w' hh
    exact ⟨0, 0, 131, hh.out.1, .inl ⟨hon, rfl, rfl, rfl⟩, hh.out.2⟩
  · by_cases hw : WorkP m hot EL f
    · refine (next_good m hot EL f w h hon hw).mono ?_
      intro e w' hh
      exact ⟨_, _, 0, hh.out.1, .inr (.inr ⟨hon, hw, rfl, rfl, rfl⟩), hh.out.2⟩
    · refine (next_bad m hot EL f w h hon hw).mono ?_
      intro e w' hh
      exact ⟨0, 0, 2, hh.out.1, .inr (.inl ⟨hon, hw, rfl, rfl, rfl⟩), hh.out.2⟩
set_option maxHeartbeats 4000000 in
set_option maxRecDepth 100000 in
theorem rnext_off (m : Mt) (w : World) (hon : m.on = false) : Calls Try.prog 15 #[.agg (mtC m)] w fun e w' => Hid (e = .returned (.tuple #[.int .u64 (0 : Nat), .int .u64 (0 : Nat), .int .i64 131]) ∧ Below w.heap.size w w') := by
  have HX : Hid (Bx (w.alloc (.cells (mtC m) 36)) w.heap.size m ∧ Below w.heap.size w (w.alloc (.cells (mtC m) 36))) := ⟨World.alloc_heap_new w _, below_alloc1 _ _⟩
  have hon2 : Hid (m.on = false) := hon
  clear hon
  go_enter Try.func15, Try.ntmps15
  go_upto_region 1 with fail
  generalize (w.alloc (.cells (mtC m) 36)) = w0 at HX ⊢
  have y14 : w0.cell? ⟨w.heap.size, 14, none⟩ = some (.bool false) := by have q := HX.out.1.c 14 (.bool m.on) rfl; rw [hon2.out] at q; exact q
  go_wp2
  go_ret3
  exact ⟨rfl, HX.out.2⟩
set_option maxHeartbeats 4000000 in
set_option maxRecDepth 100000 in
theorem rnext_bad (m : Mt) (hot : Nat) (EL : List Epo) (f : Nat → Int × Int × Int) (w : World) (h : MetaOk w m hot EL f) (hon : m.on = true) (hw : ¬ WorkP m hot EL f) : Calls Try.prog 15 #[.agg (mtC m)] w fun e w' => Hid (e = .returned (.tuple #[.int .u64 (0 : Nat), .int .u64 (0 : Nat), .int .i64 2]) ∧ Below w.heap.size w w') := by
  have HX : Hid (Bx (w.alloc (.cells (mtC m) 36)) w.heap.size m ∧ Below w.heap.size w (w.alloc (.cells (mtC m) 36))) := ⟨World.alloc_heap_new w _, below_alloc1 _ _⟩
  have HC : Hid (Calls Try.prog 39 #[.agg (mtC m)] (w.alloc (.cells (mtC m) 36)) fun e w' => Hid (e = .returned (.bool false) ∧ Below (w.alloc (.cells (mtC m) 36)).heap.size (w.alloc (.cells (mtC m) 36)) w')) := by
    refine (rwork_ok m hot EL f (w.alloc (.cells (mtC m) 36)) (h.below (below_alloc1 _ _)) hon).mono ?_
    rintro e w' ⟨b, he, hb, hB⟩
    refine ⟨?_, hB⟩
    cases b
    · exact he
    · exact absurd (hb.1 rfl) hw
  have hon2 : Hid (m.on = true) := hon
  clear hon h hw
  go_enter Try.func15, Try.ntmps15
  go_upto_region 1 with fail
  generalize (w.alloc (.cells (mtC m) 36)) = w0 at HX HC ⊢
  have y14 : w0.cell? ⟨w.heap.size, 14, none⟩ = some (.bool true) := by have q := HX.out.1.c 14 (.bool m.on) rfl; rw [hon2.out] at q; exact q
  go_wp2_with (first | (go_at_call 39; refine HC.out.mono ?_; intro e1 w1 hh; obtain ⟨he, hb1⟩ := hh.out; subst he) | (refine wpList_load_mid (by rfl) 36 (.tmp 1) (by rfl) w.heap.size 0 (by rfl) (mtC m).toList _ HX.out.1.range Try.underlying36 rfl (size36 m) ?_))
  go_ret3
  exact ⟨rfl, HX.out.2.trans (hb1.mono HX.out.2.size)⟩
set_option maxHeartbeats 4000000 in
set_option maxRecDepth 100000 in
theorem rnext_good (m : Mt) (hot : Nat) (EL : List Epo) (f : Nat → Int × Int × Int) (w : World) (h : MetaOk w m hot EL f) (hon : m.on = true) (hw : WorkP m hot EL f) : Calls Try.prog 15 #[.agg (mtC m)] w fun e w' => Hid (e = .returned (.tuple #[.int .u64 ((if m.back then secs m - m.done - min hot (secs m - m.done) else m.done : Nat) : Int), .int .u64 ((min hot (secs m - m.done) : Nat) : Int), .int .i64 0]) ∧ Below w.heap.size w w') := by
  have HX : Hid (Bx (w.alloc (.cells (mtC m) 36)) w.heap.size m ∧ Below w.heap.size w (w.alloc (.cells (mtC m) 36))) := ⟨World.alloc_heap_new w _, below_alloc1 _ _⟩
  have HC : Hid (Calls Try.prog 39 #[.agg (mtC m)] (w.alloc (.cells (mtC m) 36)) fun e w' => Hid (e = .returned (.bool true) ∧ Below (w.alloc (.cells (mtC m) 36)).heap.size (w.alloc (.cells (mtC m) 36)) w')) := by
    refine (rwork_ok m hot EL f (w.alloc (.cells (mtC m) 36)) (h.below (below_alloc1 _ _)) hon).mono ?_
    rintro e w' ⟨b, he, hb, hB⟩
    refine ⟨?_, hB⟩
    rw [he, hb.2 hw]
  obtain ⟨n1, n2, n3⟩ := secs_of hw.1
  have hm := hw.1
  obtain ⟨qu, qh, k4, k2, _, qc, qlt⟩ := mayB_all hm
  have hr := headB_range qh
  have h1 : 0 ≤ m.H := by omega
  have h2 : m.H ≤ 4194304 := hr.2
  have k1 : 0 ≤ m.K := by omega
  have HSec : Hid (∀ u, Calls Try.prog 28 #[.agg #[.int .i64 m.U, .int .u64 m.C, .int .i64 m.H, .int .i64 m.K]] u fun e w' => Hid (e = .returned (.int .u64 (secs m : Nat)) ∧ Below u.heap.size u w')) := fun u => by
    have q := rsize_ok m.U m.C m.H m.K u qu h1 h2 k1 k2 (by omega) qc
    rw [n1] at q
    exact q
  have HHz : Hid (∀ u, Calls Try.prog 40 #[.int .u64 (secs m : Nat), .agg (roM m)] u fun e w' => Hid (e = .returned (.tuple #[.int .u64 ((if m.back then secs m - m.done - min hot (secs m - m.done) else m.done : Nat) : Int), .int .u64 ((min hot (secs m - m.done) : Nat) : Int)]) ∧ Below u.heap.size u w')) := fun u => by
    rw [show roM m = roA m.on m.fr m.to m.back m.mode hot m.done m.ao m.az m.act m.cnt m.sum by simp [roM, roA, h.hh]]
    exact rhotz_ok m.on m.fr m.to m.back m.mode hot m.done m.ao m.az m.act m.cnt m.sum (secs m) n3 hw.2.2.1 u
  have hon2 : Hid (m.on = true) := hon
  generalize ((if m.back then secs m - m.done - min hot (secs m - m.done) else m.done : Nat) : Int) = aa at *
  generalize ((min hot (secs m - m.done) : Nat) : Int) = bb at *
  generalize secs m = N at *
  clear hon h hw hm qu qh qc qlt hr n1 n2 n3 h1 h2 k1 k2 k4
  go_enter Try.func15, Try.ntmps15
  go_upto_region 1 with fail
  generalize (w.alloc (.cells (mtC m) 36)) = wz at HX HC ⊢
  have y14 : wz.cell? ⟨w.heap.size, 14, none⟩ = some (.bool true) := by have q := HX.out.1.c 14 (.bool m.on) rfl; rw [hon2.out] at q; exact q
  go_upto_region 5 with (first | (go_at_call 39; refine HC.out.mono ?_; intro e1 w0 hh; obtain ⟨he, hb1⟩ := hh.out; subst he) | (refine wpList_load_mid (by rfl) 36 (.tmp 1) (by rfl) w.heap.size 0 (by rfl) (mtC m).toList _ HX.out.1.range Try.underlying36 rfl (size36 m) ?_))
  have HB0 : Hid (Bx w0 w.heap.size m ∧ Below w.heap.size w w0) := ⟨HX.out.1.below hb1, HX.out.2.trans (hb1.mono HX.out.2.size)⟩
  clear HX hb1 hh HC y14 hon2
  have hS0 : Below w0.heap.size w0 w0.drew := (Below.refl _ _).drew
  have hrr : ∀ u, Below w0.heap.size w0 u → u.rangeAt w.heap.size 14 (roM m).toList := fun u hu j v hj => (HB0.out.1.below hu).c (14 + j) v (by
    match j, hj with
    | 0, hj => exact hj
    | 1, hj => exact hj
    | 2, hj => exact hj
    | 3, hj => exact hj
    | 4, hj => exact hj
    | 5, hj => exact hj
    | 6, hj => exact hj
    | 7, hj => exact hj
    | 8, hj => exact hj
    | 9, hj => exact hj
    | 10, hj => exact hj
    | 11, hj => exact hj
    | n + 12, hj => simp at hj)
  have hrs : ∀ u, Below w0.heap.size w0 u → u.rangeAt w.heap.size 4 [.int .i64 m.U, .int .u64 m.C, .int .i64 m.H, .int .i64 m.K] := fun u hu j v hj => (HB0.out.1.below hu).c (4 + j) v (by
    match j, hj with
    | 0, hj => exact hj
    | 1, hj => exact hj
    | 2, hj => exact hj
    | 3, hj => exact hj
    | n + 4, hj => simp at hj)
  refine wp_region_noPanic ?_
  refine wp_region_held_drew (S := fun u => Below w0.heap.size w0 u) (by kernel_rfl) (hS0) (fun _ => ?_)
  refine takeH_at 0 15 (.pointer (some ⟨w.heap.size, 4, none⟩)) rfl rfl (by kernel_rfl) (by kernel_rfl) (by kernel_rfl) (fun _ _ _ h => h) (hS0) (Or.inl ⟨by kernel_rfl, fun w' hS' => by go_simp⟩) ?_
  simp only [List.setIfInBounds_toArray, List.set_cons_zero, List.set_cons_succ]
  refine takeH_at 1 16 (.agg #[.int .i64 m.U, .int .u64 m.C, .int .i64 m.H, .int .i64 m.K]) rfl rfl (by kernel_rfl) (by kernel_rfl) (by kernel_rfl) (fun _ _ _ h => h) (hS0) (yieldsIf_load_mid (by kernel_rfl) 24 (.tmp 15) rfl w.heap.size 4 rfl [.int .i64 m.U, .int .u64 m.C, .int .i64 m.H, .int .i64 m.K] _ hrs Try.underlying24 rfl (by kernel_rfl)) ?_
  simp only [List.setIfInBounds_toArray, List.set_cons_zero, List.set_cons_succ]
  refine takeH_at 3 18 (.pointer (some ⟨w.heap.size, 14, none⟩)) rfl rfl (by kernel_rfl) (by kernel_rfl) (by kernel_rfl) (fun _ _ _ h => h) (hS0) (Or.inl ⟨by kernel_rfl, fun w' hS' => by go_simp⟩) ?_
  simp only [List.setIfInBounds_toArray, List.set_cons_zero, List.set_cons_succ]
  refine takeH_at 4 19 (.agg (roM m)) rfl rfl (by kernel_rfl) (by kernel_rfl) (by kernel_rfl) (fun _ _ _ h => h) (hS0) (yieldsIf_load_mid (by kernel_rfl) 33 (.tmp 18) rfl w.heap.size 14 rfl (roM m).toList _ hrr Try.underlying33 rfl (by kernel_rfl)) ?_
  simp only [List.setIfInBounds_toArray, List.set_cons_zero, List.set_cons_succ]
  refine wpAnyH_ready (rs := [2]) (by kernel_rfl) (by simp) ?_
  refine AllReadyH.cons rfl (fun Kx hK => ?_) AllReadyH.nil
  go_simp
  refine (HSec.out _).mono ?_
  intro e1 q1 hh
  obtain ⟨he, hq1⟩ := hh.out
  subst he
  clear hh
  have hS1 : Below w0.heap.size w0 q1 := (hS0).trans (hq1.mono (hS0).size)
  go_wp2_with fail
  refine hK.out _ _ hS1 (fun _ => ?_)
  clear hK Kx
  try simp only [Act.put, List.setIfInBounds_toArray, List.set_cons_zero, List.set_cons_succ]
  refine wpAnyH_ready (rs := [5]) (by kernel_rfl) (by simp) ?_
  refine AllReadyH.cons rfl (fun Kx hK => ?_) AllReadyH.nil
  go_simp
  refine (HHz.out _).mono ?_
  intro e1 q2 hh
  obtain ⟨he, hq2⟩ := hh.out
  subst he
  clear hh
  have hS2 : Below w0.heap.size w0 q2 := (hS1).trans (hq2.mono (hS1).size)
  go_wp2_with fail
  refine hK.out _ _ hS2 (fun _ => ?_)
  clear hK Kx
  try simp only [Act.put, List.setIfInBounds_toArray, List.set_cons_zero, List.set_cons_succ]
  refine takeH_at 6 14 (.tuple #[.int .u64 aa, .int .u64 bb]) rfl rfl (by kernel_rfl) (by kernel_rfl) (by kernel_rfl) (fun _ _ _ h => h) (hS2) (Or.inl ⟨by kernel_rfl, fun w' hS' => by go_simp⟩) ?_
  simp only [List.setIfInBounds_toArray, List.set_cons_zero, List.set_cons_succ]
  refine takeH_at 7 21 (.int .u64 aa) rfl rfl (by kernel_rfl) (by kernel_rfl) (by kernel_rfl) (fun _ _ _ h => h) (hS2) (Or.inl ⟨by kernel_rfl, fun w' hS' => by go_simp⟩) ?_
  simp only [List.setIfInBounds_toArray, List.set_cons_zero, List.set_cons_succ]
  refine takeH_at 8 22 (.int .u64 bb) rfl rfl (by kernel_rfl) (by kernel_rfl) (by kernel_rfl) (fun _ _ _ h => h) (hS2) (Or.inl ⟨by kernel_rfl, fun w' hS' => by go_simp⟩) ?_
  simp only [List.setIfInBounds_toArray, List.set_cons_zero, List.set_cons_succ]
  refine takeH_at 9 5 (.int .u64 aa) rfl rfl (by kernel_rfl) (by kernel_rfl) (by kernel_rfl) (fun _ _ _ h => h) (hS2) (Or.inl ⟨by kernel_rfl, fun w' hS' => by go_simp⟩) ?_
  simp only [List.setIfInBounds_toArray, List.set_cons_zero, List.set_cons_succ]
  refine takeH_at 10 6 (.int .u64 bb) rfl rfl (by kernel_rfl) (by kernel_rfl) (by kernel_rfl) (fun _ _ _ h => h) (hS2) (Or.inl ⟨by kernel_rfl, fun w' hS' => by go_simp⟩) ?_
  simp only [List.setIfInBounds_toArray, List.set_cons_zero, List.set_cons_succ]
  refine wpAnyH_done (by kernel_rfl) ?_ _
  refine NoPanic.normal ?_
  go_wp2_with fail
  go_ret3
  exact ⟨rfl, HB0.out.2.trans (hS2.mono HB0.out.2.size)⟩
theorem rnext_ok (m : Mt) (hot : Nat) (EL : List Epo) (f : Nat → Int × Int × Int) (w : World) (h : MetaOk w m hot EL f) : Calls Try.prog 15 #[.agg (mtC m)] w fun e w' => ∃ (a n : Nat) (c : Int), e = .returned (.tuple #[.int .u64 (a : Nat), .int .u64 (n : Nat), .int .i64 c]) ∧ NextP m hot EL f a n c ∧ Below w.heap.size w w' := by
  cases hon : m.on
  · refine (rnext_off m w hon).mono ?_
    intro e w' hh
    exact ⟨0, 0, 131, hh.out.1, .inl ⟨hon, rfl, rfl, rfl⟩, hh.out.2⟩
  · by_cases hw : WorkP m hot EL f
    · refine (rnext_good m hot EL f w h hon hw).mono ?_
      intro e w' hh
      exact ⟨_, _, 0, hh.out.1, .inr (.inr ⟨hon, hw, rfl, rfl, rfl⟩), hh.out.2⟩
    · refine (rnext_bad m hot EL f w h hon hw).mono ?_
      intro e w' hh
      exact ⟨0, 0, 2, hh.out.1, .inr (.inl ⟨hon, hw, rfl, rfl, rfl⟩), hh.out.2⟩
end Go.Proofs.Ytmfnhdflmnmooaa
