import Derived.Test.YtioggmjocelolabDoorSSum
namespace Go.Proofs.YtioggmjocelolabDoor
open Go.RowKit
set_option linter.unusedVariables false
set_option linter.unusedSimpArgs false

theorem chain71 (h : Int) (wd : Bool) (a0 a1 a2 a3 a4 a5 a6 a7 : Int) (n : Nat) : ((((((((((Tryd.zeroCells71.toList.set 0 (Value.int .i64 h)).set 1 (Value.func (.func (fnOf wd)) #[] #[])).set 2 (Value.int .u64 a0)).set 3 (Value.int .u64 a1)).set 4 (Value.int .u64 a2)).set 5 (Value.int .u64 a3)).set 6 (Value.int .u64 a4)).set 7 (Value.int .u64 a5)).set 8 (Value.int .u64 a6)).set 9 (Value.int .u64 a7)).set 138 (Value.int .u64 (n : Int)) = tkL h wd ⟨a0, a1, a2, a3, a4, a5, a6, a7⟩ (fun _ => 0) n := by kernel_rfl
theorem store_run (g : Nat) (T : List Value) (w : World) (hT : TkBig T) (ht : w.there g 0 139) : (storeCells ⟨g, 0, none⟩ T).run Tryd.prog w = .ok () (w.setCells g 0 T) :=
  run_storeCells_cells (P := Tryd.prog) g 0 T 0 w (fun j hj => by have := (ht j (by have := hT.len; omega)).1; simpa using this) (fun j hj => by have := (ht j (by have := hT.len; omega)).2; simpa using this) (fun v hv => (Array.all_eq_true_iff_forall_mem.1 hT.one) v (by simpa using hv))

set_option maxHeartbeats 400000 in
set_option maxRecDepth 100000 in
theorem restart_any (g : Nat) (h : Int) (s st : Eight) (half : Nat → Int) (fed : Nat) (w : World) (k : Hid (Known h)) (HK : Hid (TK w g 0 h (wdOf h) s half fed)) :
    Calls Tryd.prog 47 #[.pointer (some ⟨g, 0, none⟩), .agg st.cells.toArray] w fun e w' => e = .returned (.tuple #[]) ∧ Touch w w' g 0 139 ∧ TK w' g 0 h (wdOf h) st (fun _ => 0) (bsz (wdOf h)) := by
  have hgw : g < w.heap.size := lt_of_cell HK.out.hash
  obtain ⟨F, HF⟩ : ∃ F : FuncId, Hid (F = fnOf (wdOf h)) := ⟨_, (show _ = _ from rfl)⟩
  obtain ⟨n, HN⟩ : ∃ n : Nat, Hid (n = bsz (wdOf h)) := ⟨_, (show _ = _ from rfl)⟩
  have hn : (n : Int) ≤ 128 := by rw [HN.out]; cases wdOf h <;> decide
  go_enter Tryd.func47, Tryd.ntmps47
  go_upto_region 1 with fail
  have HR1 : Hid ((w.alloc (.cells st.cells.toArray 68)).rangeAt w.heap.size 0 st.cells) := rangeAt_new w st.cells.toArray 68
  have HK1 : Hid (TK (w.alloc (.cells st.cells.toArray 68)) g 0 h (wdOf h) s half fed) := HK.out.below ((Below.refl _ _).alloc (Nat.le_refl _) _)
  have HT1 : Hid (Touch w (w.alloc (.cells st.cells.toArray 68)) g 0 139) := (Touch.refl _ _ _ _).alloc _ hgw
  generalize w.alloc (.cells st.cells.toArray 68) = w1 at HR1 HK1 HT1 ⊢
  obtain ⟨a0, a1, a2, a3, a4, a5, a6, a7⟩ := st
  have d0 : w1.cell? ⟨w.heap.size, 0, none⟩ = some (.int .u64 a0) := HR1.out 0 _ rfl
  have d1 : w1.cell? ⟨w.heap.size, 1, none⟩ = some (.int .u64 a1) := HR1.out 1 _ rfl
  have d2 : w1.cell? ⟨w.heap.size, 2, none⟩ = some (.int .u64 a2) := HR1.out 2 _ rfl
  have d3 : w1.cell? ⟨w.heap.size, 3, none⟩ = some (.int .u64 a3) := HR1.out 3 _ rfl
  have d4 : w1.cell? ⟨w.heap.size, 4, none⟩ = some (.int .u64 a4) := HR1.out 4 _ rfl
  have d5 : w1.cell? ⟨w.heap.size, 5, none⟩ = some (.int .u64 a5) := HR1.out 5 _ rfl
  have d6 : w1.cell? ⟨w.heap.size, 6, none⟩ = some (.int .u64 a6) := HR1.out 6 _ rfl
  have d7 : w1.cell? ⟨w.heap.size, 7, none⟩ = some (.int .u64 a7) := HR1.out 7 _ rfl
  have c0 : w1.cell? ⟨g, 0, none⟩ = some (.int .i64 h) := HK1.out.hash
  have c1 : w1.cell? ⟨g, 1, none⟩ = some (.func (.func F) #[] #[]) := by rw [HF.out]; exact HK1.out.fn
  have ht : w1.there g 0 139 := HK1.out.there
  have hblk : Hid (blockOf h = n) := by show blockOf h = n; rw [HN.out]; exact k.out.block
  obtain ⟨T, HTT⟩ : ∃ T : List Value, Hid (T = tkL h (wdOf h) ⟨a0, a1, a2, a3, a4, a5, a6, a7⟩ (fun _ => 0) n) := ⟨_, (show _ = _ from rfl)⟩
  have HG : Hid (TkBig T) := by show TkBig T; rw [HTT.out]; exact tkBig _ _ _ _ _
  have hst : (storeCells ⟨g, 0, none⟩ (((((((((((Tryd.zeroCells71.toList.set 0 (Value.int .i64 h)).set 1 (Value.func (.func F) #[] #[])).set 2 (Value.int .u64 a0)).set 3 (Value.int .u64 a1)).set 4 (Value.int .u64 a2)).set 5 (Value.int .u64 a3)).set 6 (Value.int .u64 a4)).set 7 (Value.int .u64 a5)).set 8 (Value.int .u64 a6)).set 9 (Value.int .u64 a7)).set 138 (Value.int .u64 (n : Int)))).run Tryd.prog w1.drew = .ok () (w1.drew.setCells g 0 T) := by
    rw [HF.out, chain71 h (wdOf h) a0 a1 a2 a3 a4 a5 a6 a7 n, ← HTT.out]
    exact store_run g T w1.drew HG.out ht
  have hwr : IntKind.u64.wrap (n : Int) = (n : Int) := by simp [IntKind.wrap, IntKind.bits, IntKind.signed]; omega
  have hS2 : (fun v : World => v.cell? ⟨g, 0, none⟩ = some (.int .i64 h) ∧ v.cell? ⟨g, 1, none⟩ = some (.func (.func F) #[] #[]) ∧ v.cell? ⟨w.heap.size, 0, none⟩ = some (.int .u64 a0) ∧ v.cell? ⟨w.heap.size, 1, none⟩ = some (.int .u64 a1) ∧ v.cell? ⟨w.heap.size, 2, none⟩ = some (.int .u64 a2) ∧ v.cell? ⟨w.heap.size, 3, none⟩ = some (.int .u64 a3) ∧ v.cell? ⟨w.heap.size, 4, none⟩ = some (.int .u64 a4) ∧ v.cell? ⟨w.heap.size, 5, none⟩ = some (.int .u64 a5) ∧ v.cell? ⟨w.heap.size, 6, none⟩ = some (.int .u64 a6) ∧ v.cell? ⟨w.heap.size, 7, none⟩ = some (.int .u64 a7) ∧ v.there g 0 139) (w1.drew.setCells g 0 T) := by
    have hr := World.rangeAt_setCells_same w1.drew g 0 T (by rw [HG.out.len]; exact ht)
    have hat := tkL_at h (wdOf h) ⟨a0, a1, a2, a3, a4, a5, a6, a7⟩ (fun _ => 0) n
    rw [← HTT.out] at hat
    have ho : ∀ i, (w1.drew.setCells g 0 T).cell? ⟨w.heap.size, i, none⟩ = w1.cell? ⟨w.heap.size, i, none⟩ := fun i => World.cell?_setCells_out g T 0 w1.drew ⟨w.heap.size, i, none⟩ (fun e _ => absurd e (by show w.heap.size ≠ g; omega))
    exact ⟨hr 0 _ hat.1, by rw [HF.out]; exact hr 1 _ hat.2.1, (ho 0).trans d0, (ho 1).trans d1, (ho 2).trans d2, (ho 3).trans d3, (ho 4).trans d4, (ho 5).trans d5, (ho 6).trans d6, (ho 7).trans d7, World.there_setCells (w := w1.drew) ht g 0 T⟩
  go_region_held3 (fun v => v.cell? ⟨g, 0, none⟩ = some (.int .i64 h) ∧ v.cell? ⟨g, 1, none⟩ = some (.func (.func F) #[] #[]) ∧ v.cell? ⟨w.heap.size, 0, none⟩ = some (.int .u64 a0) ∧ v.cell? ⟨w.heap.size, 1, none⟩ = some (.int .u64 a1) ∧ v.cell? ⟨w.heap.size, 2, none⟩ = some (.int .u64 a2) ∧ v.cell? ⟨w.heap.size, 3, none⟩ = some (.int .u64 a3) ∧ v.cell? ⟨w.heap.size, 4, none⟩ = some (.int .u64 a4) ∧ v.cell? ⟨w.heap.size, 5, none⟩ = some (.int .u64 a5) ∧ v.cell? ⟨w.heap.size, 6, none⟩ = some (.int .u64 a6) ∧ v.cell? ⟨w.heap.size, 7, none⟩ = some (.int .u64 a7) ∧ v.there g 0 139) (first | exact hS2 | exact ⟨c0, c1, d0, d1, d2, d3, d4, d5, d6, d7, ht⟩ | go_keep) (first
    | (go_at_call 15; refine (block_any h _).mono ?_; rintro e5 w5 ⟨rfl, hw5⟩; obtain rfl := hw5.symm; rw [hblk.out]))
  have HQ : Hid (Touch w (w1.drew.setCells g 0 T) g 0 139 ∧ TK (w1.drew.setCells g 0 T) g 0 h (wdOf h) ⟨a0, a1, a2, a3, a4, a5, a6, a7⟩ (fun _ => 0) n) := ⟨HT1.out.drew.setCells 0 T (by omega) (by rw [HG.out.len]; omega), TK.of (by rw [← HTT.out]; exact World.rangeAt_setCells_same w1.drew g 0 T (by rw [HG.out.len]; exact ht)) (World.there_setCells (w := w1.drew) ht g 0 T)⟩
  go_end0
  refine ⟨rfl, HQ.out.1, ?_⟩
  rw [← HN.out]
  exact HQ.out.2

/-- A Mac's two other states, behind its taken. -/
structure MacAt (w : World) (g : Nat) (si so : Eight) : Prop where
  inner : w.rangeAt g 139 si.cells
  outer : w.rangeAt g 147 so.cells
  there : w.there g 0 155
theorem MacAt.touch {w v : World} {g : Nat} {si so : Eight} (m : MacAt w g si so) (t : Touch w v g 0 139) : MacAt v g si so :=
  ⟨fun j x hx => by rw [t.cell _ (by omega)]; exact m.inner j x hx, fun j x hx => by rw [t.cell _ (by omega)]; exact m.outer j x hx, t.there _ _ m.there⟩
theorem MacAt.lt {w : World} {g : Nat} {si so : Eight} (m : MacAt w g si so) : g < w.heap.size := by
  obtain ⟨x, hx⟩ := Option.isSome_iff_exists.1 (m.there 0 (by omega)).1
  exact lt_of_cell hx
theorem MacAt.below {w v : World} {g : Nat} {si so : Eight} (m : MacAt w g si so) (b : Below w.heap.size w v) : MacAt v g si so :=
  ⟨range_below m.inner b m.lt, range_below m.outer b m.lt, fun j hj => by rw [b.cell (p := ⟨g, 0 + j, none⟩) m.lt, b.frozen (p := ⟨g, 0 + j, none⟩) m.lt]; exact m.there j hj⟩
theorem MacAt.far {w v : World} {g g' o' n : Nat} {si so : Eight} (m : MacAt w g si so) (b : Touch w v g' o' n) (hne : g ≠ g') : MacAt v g si so :=
  ⟨fun j x hx => by rw [b.far (p := ⟨g, 139 + j, none⟩) m.lt hne]; exact m.inner j x hx, fun j x hx => by rw [b.far (p := ⟨g, 147 + j, none⟩) m.lt hne]; exact m.outer j x hx, b.thereFar m.there m.lt hne⟩
/-- A Mac of a digest, with its two states, that was fed zs. -/
def MRep (w : World) (g : Nat) (h : Int) (si so : Eight) (zs : List Int) : Prop := Rep w g 0 h (wdOf h) si (bsz (wdOf h)) zs ∧ MacAt w g si so

set_option maxHeartbeats 400000 in
theorem msize (g : Nat) (h : Int) (w : World) (k : Hid (Known h)) (c : w.cell? ⟨g, 0, none⟩ = some (.int .i64 h)) : Calls Tryd.prog 36 #[.pointer (some ⟨g, 0, none⟩)] w fun e w' => e = .returned (.int .i64 (szOf h)) ∧ w' = w := by
  go_enter Tryd.func36, Tryd.ntmps36
  go_wp2_with (first
    | (go_at_call 37; refine (size_known k.out _).mono ?_; rintro e1 w1 ⟨rfl, hw1⟩; obtain rfl := hw1.symm))
  go_ret
  exact ⟨rfl, rfl⟩
set_option maxHeartbeats 400000 in
/-- Mac.Reset. -/
theorem mreset (g : Nat) (h : Int) (si so : Eight) (zs : List Int) (w : World) (k : Hid (Known h)) (hm : Hid (MRep w g h si so zs)) :
    Calls Tryd.prog 20 #[.pointer (some ⟨g, 0, none⟩)] w fun e w' => e = .returned (.int .i64 0) ∧ Touch w w' g 0 139 ∧ MRep w' g h si so [] := by
  obtain ⟨half, hk, _, _⟩ := hm.out.1
  have HA : Hid (Calls Tryd.prog 47 #[.pointer (some ⟨g, 0, none⟩), .agg si.cells.toArray] w fun e w' => e = .returned (.tuple #[]) ∧ Touch w w' g 0 139 ∧ TK w' g 0 h (wdOf h) si (fun _ => 0) (bsz (wdOf h))) := restart_any g h _ si half _ w k hk
  clear hk
  go_enter Tryd.func20, Tryd.ntmps20
  go_wp2_with (first
    | (refine wpList_load_mid (by rfl) 68 (.tmp 8) (by rfl) g 139 (by rfl) si.cells _ hm.out.2.inner Tryd.underlying68 rfl size68 ?_)
    | (go_at_call 47; refine HA.out.mono ?_; rintro e1 w1 ⟨rfl, ht1, hk1⟩)
    | fail)
  go_ret
  exact ⟨rfl, ht1, rep_nil hk1 (Nat.mod_self _), hm.out.2.touch ht1⟩
end Go.Proofs.YtioggmjocelolabDoor
