import Derived.Test.YtioggmjocelolabDoorMac
namespace Go.Proofs.YtioggmjocelolabDoor
open Go.RowKit
set_option linter.unusedVariables false
set_option linter.unusedSimpArgs false

theorem range_app {w : World} {g o : Nat} {a b : List Value} (h1 : w.rangeAt g o a) (h2 : w.rangeAt g (o + a.length) b) : w.rangeAt g o (a ++ b) := fun j v hv => by
  by_cases hj : j < a.length
  · rw [List.getElem?_append_left hj] at hv
    exact h1 j v hv
  · rw [List.getElem?_append_right (by omega)] at hv
    have := h2 _ v hv
    rw [show o + a.length + (j - a.length) = o + j by omega] at this
    exact this
theorem range_left {w : World} {g o : Nat} {a b : List Value} (h : w.rangeAt g o (a ++ b)) : w.rangeAt g o a := fun j v hv => h j v (by
  rw [List.getElem?_append_left (by
    by_cases hj : j < a.length
    · exact hj
    · rw [List.getElem?_eq_none (by omega)] at hv; cases hv)]
  exact hv)
theorem range_right {w : World} {g o : Nat} {a b : List Value} (h : w.rangeAt g o (a ++ b)) : w.rangeAt g (o + a.length) b := fun j v hv => by
  have := h (a.length + j) v (by rw [List.getElem?_append_right (by omega), show a.length + j - a.length = j by omega]; exact hv)
  rw [← Nat.add_assoc] at this
  exact this
theorem there_part {w : World} {g o n o' n' : Nat} (h : w.there g o n) (h1 : o ≤ o') (h2 : o' + n' ≤ o + n) : w.there g o' n' := fun j hj => by
  have := h (o' - o + j) (by omega)
  rw [show o + (o' - o + j) = o' + j by omega] at this
  exact this
theorem size73 : (Tryd.prog.info? 73).map (·.size) = some 155 := by kernel_rfl
theorem zero73 : Tryd.zeroCells73.size = 155 := by kernel_rfl
/-- A Mac's cells, as a value. -/
structure McBig (T : List Value) : Prop where
  len : T.length = 155
  one : T.toArray.all (·.oneCell') = true
theorem McBig.size {T : List Value} (h : McBig T) : T.toArray.size = 155 := by simpa using h.len
theorem McBig.info {T : List Value} (h : McBig T) : (Tryd.prog.info? 73).map (·.size) = some T.toArray.size := by rw [h.size]; exact size73
def mkL (h : Int) (wd : Bool) (s : Eight) (half : Nat → Int) (fed : Nat) (si so : Eight) : List Value := tkL h wd s half fed ++ (si.cells ++ so.cells)
theorem mcBig (h : Int) (wd : Bool) (s : Eight) (half : Nat → Int) (fed : Nat) (si so : Eight) : McBig (mkL h wd s half fed si so) := by
  refine ⟨by simp [mkL, tkL_length, Eight.cells_length], all_oneCell_toArray ?_⟩
  intro v hv
  simp only [mkL, List.mem_append] at hv
  rcases hv with hv | hv | hv
  · exact (Array.all_eq_true_iff_forall_mem.1 (tkL_one h wd s half fed)) v (by simpa using hv)
  · exact cells_oneE si v hv
  · exact cells_oneE so v hv
theorem mk_range {w : World} {g : Nat} {h : Int} {wd : Bool} {s si so : Eight} {half : Nat → Int} {fed : Nat} (k : TK w g 0 h wd s half fed) (m : MacAt w g si so) : w.rangeAt g 0 (mkL h wd s half fed si so) := by
  refine range_app k.range ?_
  rw [tkL_length]
  exact range_app m.inner (by rw [Eight.cells_length]; exact m.outer)
theorem mk_of {w : World} {g : Nat} {h : Int} {wd : Bool} {s si so : Eight} {half : Nat → Int} {fed : Nat} (hr : w.rangeAt g 0 (mkL h wd s half fed si so)) (ht : w.there g 0 155) : TK w g 0 h wd s half fed ∧ MacAt w g si so := by
  have h1 := range_right hr
  rw [tkL_length] at h1
  have h2 := range_right h1
  rw [Eight.cells_length] at h2
  exact ⟨TK.of (range_left hr) (there_part ht (by omega) (by omega)), ⟨range_left h1, h2, ht⟩⟩

set_option maxHeartbeats 400000 in
set_option maxRecDepth 100000 in
/-- Mac.Copy. -/
theorem mcopy (g : Nat) (h : Int) (si so : Eight) (zs : List Int) (w : World) (hm : Hid (MRep w g h si so zs)) :
    Calls Tryd.prog 29 #[.pointer (some ⟨g, 0, none⟩)] w fun e w' => ∃ g', e = .returned (.pointer (some ⟨g', 0, none⟩)) ∧ w.heap.size ≤ g' ∧ MRep w' g' h si so zs ∧ Below w.heap.size w w' := by
  obtain ⟨half, hk, hh, hf⟩ := hm.out.1
  obtain ⟨T, HTT⟩ : ∃ T : List Value, Hid (T = mkL h (wdOf h) (TT (wdOf h) (fnz zs) si (zs.length / bsz (wdOf h))) half (bsz (wdOf h) + zs.length) si so) := ⟨_, (show _ = _ from rfl)⟩
  have HG : Hid (McBig T) := by show McBig T; rw [HTT.out]; exact mcBig _ _ _ _ _ _ _
  have HR : Hid (w.rangeAt g 0 T) := by show w.rangeAt g 0 T; rw [HTT.out]; exact mk_range hk hm.out.2
  have HH : Hid ((∀ i, i < zs.length % bsz (wdOf h) → half i = fnz zs (bsz (wdOf h) * (zs.length / bsz (wdOf h)) + i)) ∧ bsz (wdOf h) % bsz (wdOf h) = 0) := ⟨hh, hf⟩
  have HX : Hid ((w.alloc (.cells Tryd.zeroCells73 73)).there w.heap.size 0 155) := there_new w Tryd.zeroCells73 73 155 (by rw [zero73]; exact Nat.le_refl _)
  clear hk hh hf
  go_enter Tryd.func29, Tryd.ntmps29
  go_upto_region 4 with (first
    | (refine wpList_load_mid (by rfl) 73 (.tmp 7) (by rfl) g 0 (by rfl) T _ HR.out Tryd.underlying73 rfl (by rw [HG.out.len]; exact size73) ?_)
    | (refine wpList_store_mid (by rfl) 73 (.tmp 3) (.tmp 8) (by rfl) w.heap.size 0 T.toArray (by rfl) (by rfl) (by rw [HG.out.size]; exact HX.out) HG.out.info HG.out.one ?_)
    | fail)
  have HR2 : Hid (((w.alloc (.cells Tryd.zeroCells73 73)).setCells w.heap.size 0 T).rangeAt w.heap.size 0 T) := World.rangeAt_setCells_same _ _ _ _ (by rw [HG.out.len]; exact HX.out)
  have HB2 : Hid (Below w.heap.size w ((w.alloc (.cells Tryd.zeroCells73 73)).setCells w.heap.size 0 T) ∧ ((w.alloc (.cells Tryd.zeroCells73 73)).setCells w.heap.size 0 T).there w.heap.size 0 155) := ⟨below_setCells _ (Nat.le_refl _) _ _ _ ((Below.refl _ _).alloc (Nat.le_refl _) _), World.there_setCells HX.out _ _ _⟩
  generalize (w.alloc (.cells Tryd.zeroCells73 73)).setCells w.heap.size 0 T = w2 at HR2 HB2 ⊢
  clear HX
  go_wp2
  go_ret
  have hm2 := mk_of (by rw [← HTT.out]; exact HR2.out) HB2.out.2
  exact ⟨w.heap.size, rfl, Nat.le_refl _, ⟨⟨half, hm2.1, HH.out.1, HH.out.2⟩, hm2.2⟩, HB2.out.1⟩

set_option maxHeartbeats 800000 in
set_option maxRecDepth 100000 in
/-- Mac.Write of what fits. -/
theorem mwrite (g : Nat) (h : Int) (si so : Eight) (zs : List Int) (yss : List (List Int)) (v : Value) (w : World) (k : Hid (Known h)) (hm : Hid (MRep w g h si so zs)) (hp : Hid (Parts w g v yss)) (hT : Hid (Tables w)) (hg : 4 ≤ g) (hs : Hid (zs.length + yss.flatten.length ≤ 33554432)) :
    Calls Tryd.prog 19 #[.pointer (some ⟨g, 0, none⟩), v] w fun e w' => e = .returned (.int .i64 0) ∧ Touch w w' g 0 139 ∧ MRep w' g h si so (zs ++ yss.flatten) := by
  obtain ⟨n, HN⟩ : ∃ n : Nat, Hid (n = bsz (wdOf h)) := ⟨_, (show _ = _ from rfl)⟩
  have hn : (n : Int) ≤ 128 := by rw [HN.out]; cases wdOf h <;> decide
  have hblk : Hid (blockOf h = n) := by show blockOf h = n; rw [HN.out]; exact k.out.block
  obtain ⟨m, hm1⟩ : ∃ m : Nat, m = 33554432 + n := ⟨_, rfl⟩
  have e1 : (33554432 : Int) + (n : Int) = (m : Int) := by omega
  have e2 : (m : Int) ≤ 33554560 := by omega
  have hw1 : IntKind.i64.wrap ((33554432 : Int) + (n : Int)) = (m : Int) := by rw [e1]; simp [IntKind.wrap, IntKind.bits, IntKind.signed]; omega
  have hw2 : IntKind.u64.wrap (m : Int) = (m : Int) := by simp [IntKind.wrap, IntKind.bits, IntKind.signed]; omega
  have c0 : w.cell? ⟨g, 0, none⟩ = some (.int .i64 h) := by obtain ⟨half, hk, _, _⟩ := hm.out.1; exact hk.hash
  have HA : Hid (∀ u, Sm w u → Calls Tryd.prog 51 #[.pointer (some ⟨g, 0, none⟩), .int .u64 (m : Int), v] u fun e w' => e = .returned (.int .i64 0) ∧ Touch w w' g 0 139 ∧ MRep w' g h si so (zs ++ yss.flatten)) := by
    intro u hsm
    have hr : Rep u g 0 h (wdOf h) si (bsz (wdOf h)) zs := by obtain ⟨half, hk, h1, h2⟩ := hm.out.1; exact ⟨half, hk.sm hsm, h1, h2⟩
    have hp' : Parts u g v yss := by
      obtain ⟨a, c, e, h1, h2, h3⟩ := hp.out
      refine ⟨a, c, e, h1, h2, ?_⟩
      rcases h3 with h3 | ⟨b, p, e2, h4, h5⟩
      · exact .inl h3
      · refine .inr ⟨b, p, e2, h4, fun i hi => ?_⟩
        obtain ⟨x, hx1, hx2, hx3⟩ := h5 i hi
        exact ⟨x, by rw [hsm.cell]; exact hx1, hsm.view hx2, hx3⟩
    refine (write_rep (wdOf h) g 0 h si (bsz (wdOf h)) zs yss v (33554432 - zs.length) m u k.out.block hr hp' (hsm.tables hT.out) hg (by have := hs.out; have := HN.out; omega) (by have := hs.out; have := HN.out; omega) (by have := hs.out; omega)).mono ?_
    rintro e w' ⟨rfl, ht, hr'⟩
    have ht' := (hsm.touch g 0 139).trans ht
    exact ⟨rfl, ht', hr', hm.out.2.touch ht'⟩
  clear e1 hm1
  go_enter Tryd.func19, Tryd.ntmps19
  go_upto_region 3 with fail
  go_region_held3 (fun u => u.cell? ⟨g, 0, none⟩ = some (.int .i64 h)) (first | exact c0 | exact hS6 | go_keep) (first
    | (go_at_call 15; refine (block_any h _).mono ?_; rintro e5 w5 ⟨rfl, hw5⟩; obtain rfl := hw5.symm; rw [hblk.out])
    | (go_at_call 51; refine (HA.out w.drew (Sm.refl w).drew).mono ?_; rintro e6 w6 ⟨rfl, ht6, hm6⟩; have hS6 : w6.cell? ⟨g, 0, none⟩ = some (.int .i64 h) := hm6.1.elim (fun _ q => q.1.hash)))
  have HQ : Hid (Touch w w6 g 0 139 ∧ MRep w6 g h si so (zs ++ yss.flatten)) := ⟨ht6, hm6⟩
  clear ht6 hm6 hS6
  go_wp2
  go_ret
  exact ⟨rfl, HQ.out.1, HQ.out.2⟩
end Go.Proofs.YtioggmjocelolabDoor
