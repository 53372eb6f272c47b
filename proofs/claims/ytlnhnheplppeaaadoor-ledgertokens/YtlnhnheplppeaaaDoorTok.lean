import Derived.Test.YtlnhnheplppeaaaDoorMay
namespace Go.Proofs.YtlnhnheplppeaaaDoor
open Go.RowKit
set_option linter.unusedVariables false
set_option linter.unusedSimpArgs false
theorem size_al (w : World) (o : Obj) : (w.alloc o).heap.size = w.heap.size + 1 := by simp
theorem set_cellT {u : World} {n i : Nat} {v : Value} (j : Nat) (hj : j ≠ i) : (u.setCell ⟨n, i, none⟩ v).cell? ⟨n, j, none⟩ = u.cell? ⟨n, j, none⟩ := World.cell?_setCell_other _ _ _ _ (by intro q; injection q with _ q2; omega)
set_option maxHeartbeats 3200000 in
set_option maxRecDepth 100000 in
theorem tok_ok (num : Int) (kind note : ByteArray) (a : Option Addr) (n c : Nat) (zs : List Int) (w : World) (hT : Hid (Tabs w)) (hk : kind.size ≤ 9223372036854770000) (hnn : note.size ≤ 9223372036854770000) (hl : Hid (zs.length = n)) (hn : (n + 70) * 8 ≤ 140737488355328) (hv : Hid (View w (.slice a n c) zs)) :
    Calls Tryd.prog 3 #[.agg #[.int .i64 num, .string kind, .slice a n c, .string note]] w fun e w' => Hid (e = .returned (.bool true) ∧ Below w.heap.size w w') := by
  go_enter Tryd.func3, Tryd.ntmps3
  go_upto_region 2 with fail
  have HA : Hid (TAt ((w.alloc (.cells #[.int .i64 num, .string kind, .slice a n c, .string note] 24)).alloc (.cells #[.int .i64 num, .string kind, .slice a n c, .string note] 24)) w.heap.size num kind (.slice a n c) note ∧ TAt ((w.alloc (.cells #[.int .i64 num, .string kind, .slice a n c, .string note] 24)).alloc (.cells #[.int .i64 num, .string kind, .slice a n c, .string note] 24)) (w.heap.size + 1) num kind (.slice a n c) note ∧ Below w.heap.size w ((w.alloc (.cells #[.int .i64 num, .string kind, .slice a n c, .string note] 24)).alloc (.cells #[.int .i64 num, .string kind, .slice a n c, .string note] 24)) ∧ ((w.alloc (.cells #[.int .i64 num, .string kind, .slice a n c, .string note] 24)).alloc (.cells #[.int .i64 num, .string kind, .slice a n c, .string note] 24)).heap.size = w.heap.size + 2 ∧ ((w.alloc (.cells #[.int .i64 num, .string kind, .slice a n c, .string note] 24)).alloc (.cells #[.int .i64 num, .string kind, .slice a n c, .string note] 24)).frozen? ⟨w.heap.size + 1, 2, none⟩ = false) := by
    have q := TAt.new (w.alloc (.cells #[.int .i64 num, .string kind, .slice a n c, .string note] 24)) num kind note (.slice a n c) 24
    rw [size_al] at q
    refine ⟨(TAt.new w num kind note (.slice a n c) 24).below (below_alloc _ _), q, (below_alloc _ _).trans ((below_alloc _ _).mono (by rw [size_al]; omega)), by rw [size_al, size_al], ?_⟩
    have e : w.heap.size + 1 = (w.alloc (.cells #[.int .i64 num, .string kind, .slice a n c, .string note] 24)).heap.size := (size_al _ _).symm
    rw [e]
    exact World.frozen?_alloc_at #[.int .i64 num, .string kind, .slice a n c, .string note] 24 _ _ rfl
  generalize (w.alloc (.cells #[.int .i64 num, .string kind, .slice a n c, .string note] 24)).alloc (.cells #[.int .i64 num, .string kind, .slice a n c, .string note] 24) = w2 at HA ⊢
  have HV2 : Hid (View w2 (.slice a n c) zs) := hv.out.kept fun b hb => HA.out.2.2.1.block b hb
  have H4 : Hid (Calls Tryd.prog 4 #[.slice a n c] w2 fun e w' => Hid (∃ g cc, e = .returned (.slice (some ⟨g, 0, none⟩) n cc) ∧ Marked w2.heap.size w' (.slice (some ⟨g, 0, none⟩) n cc) zs ∧ Below w2.heap.size w2 w')) := by
    refine (copy_any (.slice a n c) zs w2 (by rw [hl.out]; exact hn) HV2.out).mono ?_
    rintro e w' ⟨v', r1, r2, r3⟩
    have r2' := r2
    obtain ⟨g, cc, e', _⟩ := r2
    rw [hl.out] at e'
    subst e'
    exact ⟨g, cc, r1, r2', r3⟩
  have c2 := HA.out.1.c2
  have HU3 : Hid (∀ v, Below w2.heap.size w2 v → v.cell? ⟨w.heap.size + 1, 2, none⟩ = some (.slice a n c) ∧ v.frozen? ⟨w.heap.size + 1, 2, none⟩ = false) := fun v hb => by
    have q := hb.block (w.heap.size + 1) (by rw [HA.out.2.2.2.1]; omega)
    exact ⟨by rw [World.cell?_of_block (a := ⟨w.heap.size + 1, 2, none⟩) q]; exact HA.out.2.1.c2, by rw [World.frozen?_of_block (a := ⟨w.heap.size + 1, 2, none⟩) q]; exact HA.out.2.2.2.2⟩
  go_upto_region 3 with (go_at_call 4; refine H4.out.mono ?_; intro e3 w3 hh; obtain ⟨g, cc, rfl, m3, b3⟩ := hh.out; have p3 : w3.cell? ⟨w.heap.size + 1, 2, none⟩ = some (.slice a n c) := (HU3.out w3 b3).1; have z3 : w3.frozen? ⟨w.heap.size + 1, 2, none⟩ = false := (HU3.out w3 b3).2)
  have HS4 : Hid ((w3.setCell ⟨w.heap.size + 1, 2, none⟩ (.slice (some ⟨g, 0, none⟩) n cc)).cell? ⟨w.heap.size, 0, none⟩ = some (.int .i64 num) ∧ (w3.setCell ⟨w.heap.size + 1, 2, none⟩ (.slice (some ⟨g, 0, none⟩) n cc)).cell? ⟨w.heap.size, 1, none⟩ = some (.string kind) ∧ (w3.setCell ⟨w.heap.size + 1, 2, none⟩ (.slice (some ⟨g, 0, none⟩) n cc)).cell? ⟨w.heap.size, 2, none⟩ = some (.slice a n c) ∧ (w3.setCell ⟨w.heap.size + 1, 2, none⟩ (.slice (some ⟨g, 0, none⟩) n cc)).cell? ⟨w.heap.size, 3, none⟩ = some (.string note) ∧ (w3.setCell ⟨w.heap.size + 1, 2, none⟩ (.slice (some ⟨g, 0, none⟩) n cc)).cell? ⟨w.heap.size + 1, 0, none⟩ = some (.int .i64 num) ∧ (w3.setCell ⟨w.heap.size + 1, 2, none⟩ (.slice (some ⟨g, 0, none⟩) n cc)).cell? ⟨w.heap.size + 1, 1, none⟩ = some (.string kind) ∧ (w3.setCell ⟨w.heap.size + 1, 2, none⟩ (.slice (some ⟨g, 0, none⟩) n cc)).cell? ⟨w.heap.size + 1, 2, none⟩ = some (.slice (some ⟨g, 0, none⟩) n cc) ∧ (w3.setCell ⟨w.heap.size + 1, 2, none⟩ (.slice (some ⟨g, 0, none⟩) n cc)).cell? ⟨w.heap.size + 1, 3, none⟩ = some (.string note)) := by
    have t1 := HA.out.1.below b3
    have t2 := HA.out.2.1.below b3
    have ne : ∀ j, (w3.setCell ⟨w.heap.size + 1, 2, none⟩ (.slice (some ⟨g, 0, none⟩) n cc)).cell? ⟨w.heap.size, j, none⟩ = w3.cell? ⟨w.heap.size, j, none⟩ := fun j => World.cell?_setCell_other _ _ _ _ (by intro q; injection q with q1 _; omega)
    exact ⟨by rw [ne]; exact t1.c0, by rw [ne]; exact t1.c1, by rw [ne]; exact t1.c2, by rw [ne]; exact t1.c3, by rw [set_cellT 0 (by omega)]; exact t2.c0, by rw [set_cellT 1 (by omega)]; exact t2.c1, World.cell?_setCell_same' _ _ _ (by rw [p3]; rfl), by rw [set_cellT 3 (by omega)]; exact t2.c3⟩
  have HG4 : Hid (Below w.heap.size w (w3.setCell ⟨w.heap.size + 1, 2, none⟩ (.slice (some ⟨g, 0, none⟩) n cc)) ∧ Marked w2.heap.size (w3.setCell ⟨w.heap.size + 1, 2, none⟩ (.slice (some ⟨g, 0, none⟩) n cc)) (.slice (some ⟨g, 0, none⟩) n cc) zs) := by
    refine ⟨(HA.out.2.2.1.trans (b3.mono HA.out.2.2.1.size)).setCell (p := ⟨w.heap.size + 1, 2, none⟩) (by show _ ≤ w.heap.size + 1; omega) _, ?_⟩
    obtain ⟨g', c', e, ho⟩ := m3
    refine ⟨g', c', e, ho.1, ?_⟩
    rcases ho.2 with ⟨h, _⟩ | ⟨g2, c2', cur, he, h1, h2, r⟩
    · cases h
    · refine .inr ⟨g2, c2', cur, he, h1, ?_, r⟩
      rw [Below.heap_setCell _ _ _ g2 (by show g2 ≠ w.heap.size + 1; have := HA.out.2.2.2.1; omega)]
      exact h2
  clear hh m3 b3 p3 z3 H4 HU3 c2 HV2 HA
  generalize w3.setCell ⟨w.heap.size + 1, 2, none⟩ (.slice (some ⟨g, 0, none⟩) n cc) = w4 at HS4 HG4 ⊢
  obtain ⟨M, HM⟩ : ∃ M, Hid (mayB num kind note zs n = M) := ⟨_, rfl⟩
  have HK : Hid (∀ u, Below w4.heap.size w4 u → u.cell? ⟨w.heap.size, 0, none⟩ = some (.int .i64 num) ∧ u.cell? ⟨w.heap.size, 1, none⟩ = some (.string kind) ∧ u.cell? ⟨w.heap.size, 2, none⟩ = some (.slice a n c) ∧ u.cell? ⟨w.heap.size, 3, none⟩ = some (.string note) ∧ u.cell? ⟨w.heap.size + 1, 0, none⟩ = some (.int .i64 num) ∧ u.cell? ⟨w.heap.size + 1, 1, none⟩ = some (.string kind) ∧ u.cell? ⟨w.heap.size + 1, 2, none⟩ = some (.slice (some ⟨g, 0, none⟩) n cc) ∧ u.cell? ⟨w.heap.size + 1, 3, none⟩ = some (.string note)) := fun u hu => by
    have h := HS4.out
    have l1 : w.heap.size < w4.heap.size := World.block_lt_of_cell? w4 _ h.1
    have l2 : w.heap.size + 1 < w4.heap.size := World.block_lt_of_cell? w4 _ h.2.2.2.2.1
    have q1 : ∀ j, u.cell? ⟨w.heap.size, j, none⟩ = w4.cell? ⟨w.heap.size, j, none⟩ := fun j => World.cell?_of_block (a := ⟨w.heap.size, j, none⟩) (hu.block _ l1)
    have q2 : ∀ j, u.cell? ⟨w.heap.size + 1, j, none⟩ = w4.cell? ⟨w.heap.size + 1, j, none⟩ := fun j => World.cell?_of_block (a := ⟨w.heap.size + 1, j, none⟩) (hu.block _ l2)
    rw [q1, q1, q1, q1, q2, q2, q2, q2]
    exact h
  have H5 : Hid (∀ u, Below w4.heap.size w4 u → Calls Tryd.prog 5 #[.agg #[.int .i64 num, .string kind, .slice (some ⟨g, 0, none⟩) n cc, .string note]] u fun e w' => Hid (e = .returned (.bool M) ∧ Below w4.heap.size w4 w')) := fun u hu => by
    have q := may_prog num kind note (some ⟨g, 0, none⟩) n cc zs u (hT.out.below (HG4.out.1.trans (hu.mono HG4.out.1.size))) hk hnn hl (by omega) ((HG4.out.2.kept fun b hb => hu.block b hb).view)
    rw [HM.out] at q
    refine q.mono ?_
    intro e w' hh
    exact ⟨hh.out.1, hu.trans (hh.out.2.mono hu.size)⟩
  have H6 : Hid (∀ u, Below w4.heap.size w4 u → Calls Tryd.prog 6 #[.agg #[.int .i64 num, .string kind, .slice a n c, .string note]] u fun e w' => Hid (e = .returned (.bool M) ∧ Below w4.heap.size w4 w')) := fun u hu => by
    have q := may_ref num kind note a n c zs u hk hnn hl (by omega) (hv.out.kept fun b hb => (HG4.out.1.trans (hu.mono HG4.out.1.size)).block b hb)
    rw [HM.out] at q
    refine q.mono ?_
    intro e w' hh
    exact ⟨hh.out.1, hu.trans (hh.out.2.mono hu.size)⟩
  have H7 : Hid (∀ u, Below w4.heap.size w4 u → Calls Tryd.prog 7 #[.slice (some ⟨g, 0, none⟩) n cc, .slice a n c] u fun e w' => Hid (e = .returned (.bool true) ∧ Below w4.heap.size w4 w')) := fun u hu => by
    refine (whole_any _ _ zs w2.heap.size u (HG4.out.2.kept fun b hb => hu.block b hb) (hv.out.kept fun b hb => (HG4.out.1.trans (hu.mono HG4.out.1.size)).block b hb)).mono ?_
    rintro e w' ⟨q1, k, rfl⟩
    exact ⟨q1, hu.trans (below_drw _ _ hu.size)⟩
  have hS0 := HS4.out
  go_region_held3 (fun u => u.cell? ⟨w.heap.size, 0, none⟩ = some (.int .i64 num) ∧ u.cell? ⟨w.heap.size, 1, none⟩ = some (.string kind) ∧ u.cell? ⟨w.heap.size, 2, none⟩ = some (.slice a n c) ∧ u.cell? ⟨w.heap.size, 3, none⟩ = some (.string note) ∧ u.cell? ⟨w.heap.size + 1, 0, none⟩ = some (.int .i64 num) ∧ u.cell? ⟨w.heap.size + 1, 1, none⟩ = some (.string kind) ∧ u.cell? ⟨w.heap.size + 1, 2, none⟩ = some (.slice (some ⟨g, 0, none⟩) n cc) ∧ u.cell? ⟨w.heap.size + 1, 3, none⟩ = some (.string note)) (first | exact hS0 | exact hS7 | exact hS6 | exact hS5 | go_keep) (first
    | (go_at_call 5; refine (H5.out w4.drew (below_drw w4 1 (Nat.le_refl _))).mono ?_; intro e5 w5 hh; obtain ⟨rfl, b5⟩ := hh.out; have hS5 : w5.cell? ⟨w.heap.size, 0, none⟩ = some (.int .i64 num) ∧ w5.cell? ⟨w.heap.size, 1, none⟩ = some (.string kind) ∧ w5.cell? ⟨w.heap.size, 2, none⟩ = some (.slice a n c) ∧ w5.cell? ⟨w.heap.size, 3, none⟩ = some (.string note) ∧ w5.cell? ⟨w.heap.size + 1, 0, none⟩ = some (.int .i64 num) ∧ w5.cell? ⟨w.heap.size + 1, 1, none⟩ = some (.string kind) ∧ w5.cell? ⟨w.heap.size + 1, 2, none⟩ = some (.slice (some ⟨g, 0, none⟩) n cc) ∧ w5.cell? ⟨w.heap.size + 1, 3, none⟩ = some (.string note) := HK.out w5 b5)
    | (go_at_call 6; refine (H6.out w5 b5).mono ?_; intro e6 w6 hh; obtain ⟨rfl, b6⟩ := hh.out; have hS6 : w6.cell? ⟨w.heap.size, 0, none⟩ = some (.int .i64 num) ∧ w6.cell? ⟨w.heap.size, 1, none⟩ = some (.string kind) ∧ w6.cell? ⟨w.heap.size, 2, none⟩ = some (.slice a n c) ∧ w6.cell? ⟨w.heap.size, 3, none⟩ = some (.string note) ∧ w6.cell? ⟨w.heap.size + 1, 0, none⟩ = some (.int .i64 num) ∧ w6.cell? ⟨w.heap.size + 1, 1, none⟩ = some (.string kind) ∧ w6.cell? ⟨w.heap.size + 1, 2, none⟩ = some (.slice (some ⟨g, 0, none⟩) n cc) ∧ w6.cell? ⟨w.heap.size + 1, 3, none⟩ = some (.string note) := HK.out w6 b6)
    | (go_at_call 7; refine (H7.out w6 b6).mono ?_; intro e7 w7 hh; obtain ⟨rfl, b7⟩ := hh.out; have hS7 : w7.cell? ⟨w.heap.size, 0, none⟩ = some (.int .i64 num) ∧ w7.cell? ⟨w.heap.size, 1, none⟩ = some (.string kind) ∧ w7.cell? ⟨w.heap.size, 2, none⟩ = some (.slice a n c) ∧ w7.cell? ⟨w.heap.size, 3, none⟩ = some (.string note) ∧ w7.cell? ⟨w.heap.size + 1, 0, none⟩ = some (.int .i64 num) ∧ w7.cell? ⟨w.heap.size + 1, 1, none⟩ = some (.string kind) ∧ w7.cell? ⟨w.heap.size + 1, 2, none⟩ = some (.slice (some ⟨g, 0, none⟩) n cc) ∧ w7.cell? ⟨w.heap.size + 1, 3, none⟩ = some (.string note) := HK.out w7 b7))
  have HB7 : Hid (Below w.heap.size w w7) := HG4.out.1.trans (b7.mono HG4.out.1.size)
  clear hS0 hS5 hS6 hS7
  go_wp2
  go_ret
  exact ⟨rfl, HB7.out⟩
end Go.Proofs.YtlnhnheplppeaaaDoor
