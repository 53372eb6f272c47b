import Derived.Test.YtgmfiljjogdccaaDoorPart06
namespace Go.Proofs.YtgmfiljjogdccaaDoor
open Go.RowKit
set_option linter.unusedVariables false
/-- Sixteen bytes where they lie. -/
structure Ar (u : World) (b : Nat) (f : Nat → Nat) : Prop where
  c : ∀ j, j < 16 → u.cell? ⟨b, j, none⟩ = some (.int .u8 (f j : Nat))
  t : u.there b 0 16
theorem Ar.set {u : World} {b : Nat} {f : Nat → Nat} (h : Ar u b f) (k x : Nat) (hk : k < 16) : Ar (u.setCell ⟨b, k, none⟩ (.int .u8 (x : Nat))) b (fun j => if j = k then x else f j) :=
  ⟨fun j hj => by
    by_cases e : j = k
    · subst e; simp only [if_true]; exact set_same _ h.t hk
    · simp only [if_neg e]; rw [cell_other _ _ _ _ _ (fun q => e q.symm)]; exact h.c j hj, World.there_setCells h.t _ _ [_]⟩
theorem Ar.far {u : World} {b b' o : Nat} {f : Nat → Nat} {v : Value} (h : Ar u b f) (hne : b' ≠ b) : Ar (u.setCell ⟨b', o, none⟩ v) b f :=
  ⟨fun j hj => by rw [World.cell?_setCell_far _ _ _ _ hne]; exact h.c j hj, World.there_setCells h.t _ _ [_]⟩
theorem Ar.congr {u : World} {b : Nat} {f f' : Nat → Nat} (h : Ar u b f) (e : ∀ j, j < 16 → f j = f' j) : Ar u b f' := ⟨fun j hj => by rw [← e j hj]; exact h.c j hj, h.t⟩
theorem Ar.range {u : World} {b : Nat} {f : Nat → Nat} (h : Ar u b f) : u.rangeAt b 0 (arL f) := fun j v hv => by
  have hj : j < 16 := (List.getElem?_eq_some_iff.1 hv).1
  rw [arL_at f j hj] at hv
  rw [Nat.zero_add, h.c j hj]; exact hv
theorem Ar.same {u u' : World} {b : Nat} {f : Nat → Nat} (h : Ar u b f) (e : u'.heap[b]? = u.heap[b]?) : Ar u' b f :=
  ⟨fun j hj => (World.cell?_of_block (a := ⟨b, j, none⟩) e).trans (h.c j hj), fun j hj => by
    rw [World.cell?_of_block (a := ⟨b, 0 + j, none⟩) e, World.frozen?_of_block (a := ⟨b, 0 + j, none⟩) e]; exact h.t j hj⟩
theorem ar_new (w : World) (f : Nat → Nat) (t : TypeId) : Ar (w.alloc (.cells (arA f) t)) w.heap.size f :=
  ⟨fun j hj => by
    rw [World.cell?_alloc_at _ t _ _ rfl, ← arL_array]
    have := arL_at f j hj
    simpa using this, there_new w (arA f) t 16 (by show 16 ≤ 16; omega)⟩
def z16 : Array Value := #[.int .u8 0, .int .u8 0, .int .u8 0, .int .u8 0, .int .u8 0, .int .u8 0, .int .u8 0, .int .u8 0, .int .u8 0, .int .u8 0, .int .u8 0, .int .u8 0, .int .u8 0, .int .u8 0, .int .u8 0, .int .u8 0]
def zero8 (_ : Nat) : Nat := 0
theorem z16_ar : z16 = arA zero8 := rfl
/-- A new array, and a box for the answer. -/
theorem ar_two (w : World) (f : Nat → Nat) (t t' : TypeId) : Below w.heap.size w ((w.alloc (.cells (arA f) t)).alloc (.cells z16 t')) ∧ Ar ((w.alloc (.cells (arA f) t)).alloc (.cells z16 t')) w.heap.size f ∧ Ar ((w.alloc (.cells (arA f) t)).alloc (.cells z16 t')) (w.heap.size + 1) zero8 := by
  rw [z16_ar]
  have s1 : (w.alloc (.cells (arA f) t)).heap.size = w.heap.size + 1 := by simp
  refine ⟨((Below.refl _ w).alloc (Nat.le_refl _) _).alloc (by omega) _, ?_, ?_⟩
  · refine (ar_new w f t).same ?_
    have hb : Below (w.alloc (.cells (arA f) t)).heap.size (w.alloc (.cells (arA f) t)) ((w.alloc (.cells (arA f) t)).alloc (.cells (arA zero8) t')) := (Below.refl _ _).alloc (Nat.le_refl _) _
    exact hb.block _ (by omega)
  · have := ar_new (w.alloc (.cells (arA f) t)) zero8 t'
    rw [s1] at this
    exact this
theorem RefAt.below {w u : World} {g gr nk : Nat} {K : Nat → Nat} (h : RefAt w g gr nk K) (hb : Below w.heap.size w u) : RefAt u g gr nk K := h.keep (hb.block g h.lt) (hb.block gr h.ltr) hb.size
theorem size41 : (Tryd.prog.info? 41).map (·.size) = some 16 := by kernel_rfl
theorem arA_one (f : Nat → Nat) : (arA f).all (·.oneCell') = true := by
  rw [← arL_array]
  exact all_oneCell_toArray (fun v hv => by
    rw [arL_map] at hv
    simp only [List.mem_map] at hv
    obtain ⟨j, _, rfl⟩ := hv
    rfl)
set_option maxHeartbeats 1600000 in
set_option maxRecDepth 100000 in
theorem added_ok (g gr nk r : Nat) (K : Nat → Nat) (s : W4) (w : World) (h : RefAt w g gr nk K) (hn : nk ≤ 8) (hr : r ≤ nk + 6) (hK : ∀ i, K i < 4294967296) (hs : s.ok) :
    Calls Tryd.prog 45 #[.pointer (some ⟨g, 0, none⟩), .agg (arA (sb s)), .int .i64 (r : Nat)] w fun e w' => e = .returned (.agg (arA (sb (addK K r s)))) ∧ Below w.heap.size w w' := by
  obtain ⟨f, HF⟩ : ∃ f, Hid (f = sb s) := ⟨_, rfl⟩
  have HFl : Hid (∀ j, f j < 256) := by show ∀ j, _; rw [HF.out]; exact sb_lt s
  have HE : Hid (∀ j, j < 16 → Nat.xor (f j) (rb K (16 * r + j)) = sb (addK K r s) j) := fun j hj => by rw [HF.out, sb_add hK r hs j hj]
  rw [← HF.out]
  have HH : Hid (RefAt w g gr nk K) := h
  obtain ⟨m, HM⟩ : ∃ m, Hid (m = 16 * (nk + 7)) := ⟨_, rfl⟩
  obtain ⟨q, HQ⟩ : ∃ q, Hid (q = 16 * r) := ⟨_, rfl⟩
  have hmq : q + 16 ≤ m ∧ m ≤ 240 := by have := HM.out; have := HQ.out; omega
  have hq : (16 : Int) * ((r : Nat) : Int) = ((q : Nat) : Int) := by have := HQ.out; omega
  have hwq : IntKind.i64.wrap ((q : Nat) : Int) = ((q : Nat) : Int) := wraps_i64 _ (by omega) (by omega)
  obtain ⟨c, hrd⟩ := HH.out.round
  rw [← HM.out] at hrd
  have HR : Hid (w.cell? ⟨g, 1, none⟩ = some (.slice (some ⟨gr, 0, none⟩) m c)) := hrd
  obtain ⟨F2, HF2⟩ : ∃ F, Hid (F = fun j => Nat.xor (f j) (rb K (q + j))) := ⟨_, rfl⟩
  have HE2 : Hid (∀ j, j < 16 → F2 j = sb (addK K r s) j) := fun j hj => by rw [HF2.out, HQ.out]; exact HE.out j hj
  clear hrd hn hr h hK hs HE
  have HI : Hid (Below w.heap.size w _ ∧ Ar _ w.heap.size f ∧ Ar _ (w.heap.size + 1) zero8) := ar_two w f 41 41
  unfold arA z16 at HI
  rw [← arA_congr HE2.out]
  obtain ⟨R2, HR2⟩ : ∃ A, Hid (A = arA F2) := ⟨_, rfl⟩
  rw [← HR2.out]
  unfold arA
  go_enter Tryd.func45, Tryd.ntmps45
  go_wp2
  generalize ((w.alloc (.cells #[.int .u8 (f 0 : Nat), .int .u8 (f 1 : Nat), .int .u8 (f 2 : Nat), .int .u8 (f 3 : Nat), .int .u8 (f 4 : Nat), .int .u8 (f 5 : Nat), .int .u8 (f 6 : Nat), .int .u8 (f 7 : Nat), .int .u8 (f 8 : Nat), .int .u8 (f 9 : Nat), .int .u8 (f 10 : Nat), .int .u8 (f 11 : Nat), .int .u8 (f 12 : Nat), .int .u8 (f 13 : Nat), .int .u8 (f 14 : Nat), .int .u8 (f 15 : Nat)] 41)).alloc (.cells #[.int .u8 0, .int .u8 0, .int .u8 0, .int .u8 0, .int .u8 0, .int .u8 0, .int .u8 0, .int .u8 0, .int .u8 0, .int .u8 0, .int .u8 0, .int .u8 0, .int .u8 0, .int .u8 0, .int .u8 0, .int .u8 0] 41)) = w2 at HI ⊢
  obtain ⟨B1, HB1⟩ : ∃ b, Hid (w.heap.size + 1 = b) := ⟨_, rfl⟩
  rw [HB1.out] at HI ⊢
  have hB1 : w.heap.size ≠ B1 ∧ w.heap.size ≤ B1 := by have := HB1.out; omega
  go_loopw [7] (fun i wr => ∃ k : Nat, k ≤ 16 ∧ i = .int .i64 (k : Nat) ∧ Hid (Below w.heap.size w wr ∧ Ar wr w.heap.size (fun j => if j < k then F2 j else f j) ∧ wr.there B1 0 16)) (fun i _ => 16 - (intOf i).toNat)
  case atStart => exact ⟨0, by omega, rfl, HI.out.1, HI.out.2.1.congr (fun j hj => by rw [if_neg (by omega)]), HI.out.2.2.t⟩
  case round =>
    obtain ⟨k, hk, rfl, HJ⟩ := hrel
    by_cases hlt : k < 16
    · obtain ⟨a, HA⟩ : ∃ a, Hid (a = f k) := ⟨_, rfl⟩
      obtain ⟨p, HP⟩ : ∃ p, Hid (p = q + k) := ⟨_, rfl⟩
      obtain ⟨b, HB⟩ : ∃ b, Hid (b = rb K p) := ⟨_, rfl⟩
      obtain ⟨x, HX⟩ : ∃ x, Hid (x = F2 k) := ⟨_, rfl⟩
      have hki : ((k : Nat) : Int) < 16 := by omega
      have hp : ((q : Nat) : Int) + ((k : Nat) : Int) = ((p : Nat) : Int) := by have := HP.out; omega
      have hwp : IntKind.i64.wrap ((p : Nat) : Int) = ((p : Nat) : Int) := wraps_i64 _ (by omega) (by omega)
      have hpm : ((p : Nat) : Int) < ((m : Nat) : Int) := by have := HP.out; omega
      have hx : bits .xor .u8 ((a : Nat) : Int) ((b : Nat) : Int) = ((x : Nat) : Int) := by
        rw [xor8 _ _ (by rw [HA.out]; exact HFl.out k) (by rw [HB.out]; exact rb_lt _ _), HX.out, HF2.out, HA.out, HB.out, HP.out]
      have hSt : wr.drew.cell? ⟨w.heap.size, k, none⟩ = some (.int .u8 (a : Nat)) ∧ wr.drew.cell? ⟨g, 1, none⟩ = some (.slice (some ⟨gr, 0, none⟩) m c) ∧ wr.drew.cell? ⟨gr, p, none⟩ = some (.int .u8 (b : Nat)) ∧ wr.drew.frozen? ⟨w.heap.size, k, none⟩ = false := by
        refine ⟨?_, ?_, ?_, ?_⟩
        · show wr.cell? _ = _
          rw [HJ.out.2.1.c k hlt, if_neg (by omega), HA.out]
        · exact (HJ.out.1.cell (p := ⟨g, 1, none⟩) HH.out.lt).trans HR.out
        · show wr.cell? _ = _
          rw [HJ.out.1.cell (p := ⟨gr, p, none⟩) HH.out.ltr, HH.out.cells p (by have := HP.out; have := HM.out; omega), HB.out]
        · exact there_froz HJ.out.2.1.t k hlt
      go_upto_region 4 with fail
      refine wp_region_noPanic ?_
      refine wp_region_till (fun u => u.cell? ⟨w.heap.size, k, none⟩ = some (.int .u8 (a : Nat)) ∧ u.cell? ⟨g, 1, none⟩ = some (.slice (some ⟨gr, 0, none⟩) m c) ∧ u.cell? ⟨gr, p, none⟩ = some (.int .u8 (b : Nat)) ∧ u.frozen? ⟨w.heap.size, k, none⟩ = false) 15 (by kernel_rfl) (by decide) (by decide +kernel) (by decide +kernel) (by decide +kernel) (fun inv => ?_)
      refine till_at 0 12 (.int .i64 (k : Nat)) inv rfl rfl (by decide) (by decide +kernel) (by decide +kernel) (fun _ _ _ h => h) (hSt) (Or.inl ⟨by rfl, fun w' hS' => by go_simp⟩) (fun inv' => ?_)
      clear inv; have inv := inv'; clear inv'
      simp only [List.setIfInBounds_toArray, List.set_cons_zero, List.set_cons_succ]
      refine till_at 1 13 (.int .i64 (k : Nat)) inv rfl rfl (by decide) (by decide +kernel) (by decide +kernel) (fun _ _ _ h => h) (hSt) (Or.inl ⟨by rfl, fun w' hS' => by go_simp⟩) (fun inv' => ?_)
      clear inv; have inv := inv'; clear inv'
      simp only [List.setIfInBounds_toArray, List.set_cons_zero, List.set_cons_succ]
      refine till_at 2 14 (.pointer (some ⟨w.heap.size, k, none⟩)) inv rfl rfl (by decide) (by decide +kernel) (by decide +kernel) (fun _ _ _ h => h) (hSt) (Or.inl ⟨by rfl, fun w' hS' => by go_simp⟩) (fun inv' => ?_)
      clear inv; have inv := inv'; clear inv'
      simp only [List.setIfInBounds_toArray, List.set_cons_zero, List.set_cons_succ]
      refine till_at 3 15 (.int .u8 (a : Nat)) inv rfl rfl (by decide) (by decide +kernel) (by decide +kernel) (fun _ _ _ h => h) (hSt) (Or.inl ⟨by rfl, fun w' hS' => by have q1 := hS'.1; go_simp⟩) (fun inv' => ?_)
      clear inv; have inv := inv'; clear inv'
      simp only [List.setIfInBounds_toArray, List.set_cons_zero, List.set_cons_succ]
      refine till_at 4 16 (.pointer (some ⟨g, 0, none⟩)) inv rfl rfl (by decide) (by decide +kernel) (by decide +kernel) (fun _ _ _ h => h) (hSt) (Or.inl ⟨by rfl, fun w' hS' => by go_simp⟩) (fun inv' => ?_)
      clear inv; have inv := inv'; clear inv'
      simp only [List.setIfInBounds_toArray, List.set_cons_zero, List.set_cons_succ]
      refine till_at 5 17 (.pointer (some ⟨g, 0, none⟩)) inv rfl rfl (by decide) (by decide +kernel) (by decide +kernel) (fun _ _ _ h => h) (hSt) (Or.inl ⟨by rfl, fun w' hS' => by go_simp⟩) (fun inv' => ?_)
      clear inv; have inv := inv'; clear inv'
      simp only [List.setIfInBounds_toArray, List.set_cons_zero, List.set_cons_succ]
      refine till_at 6 18 (.pointer (some ⟨g, 1, none⟩)) inv rfl rfl (by decide) (by decide +kernel) (by decide +kernel) (fun _ _ _ h => h) (hSt) (Or.inl ⟨by rfl, fun w' hS' => by go_simp⟩) (fun inv' => ?_)
      clear inv; have inv := inv'; clear inv'
      simp only [List.setIfInBounds_toArray, List.set_cons_zero, List.set_cons_succ]
      refine till_at 7 19 (.slice (some ⟨gr, 0, none⟩) m c) inv rfl rfl (by decide) (by decide +kernel) (by decide +kernel) (fun _ _ _ h => h) (hSt) (Or.inl ⟨by rfl, fun w' hS' => by have q1 := hS'.2.1; go_simp⟩) (fun inv' => ?_)
      clear inv; have inv := inv'; clear inv'
      simp only [List.setIfInBounds_toArray, List.set_cons_zero, List.set_cons_succ]
      refine till_at 8 20 (.int .i64 (r : Nat)) inv rfl rfl (by decide) (by decide +kernel) (by decide +kernel) (fun _ _ _ h => h) (hSt) (Or.inl ⟨by rfl, fun w' hS' => by go_simp⟩) (fun inv' => ?_)
      clear inv; have inv := inv'; clear inv'
      simp only [List.setIfInBounds_toArray, List.set_cons_zero, List.set_cons_succ]
      refine till_at 9 21 (.int .i64 (q : Nat)) inv rfl rfl (by decide) (by decide +kernel) (by decide +kernel) (fun _ _ _ h => h) (hSt) (Or.inl ⟨by rfl, fun w' hS' => by go_simp⟩) (fun inv' => ?_)
      clear inv; have inv := inv'; clear inv'
      simp only [List.setIfInBounds_toArray, List.set_cons_zero, List.set_cons_succ]
      refine till_at 10 22 (.int .i64 (k : Nat)) inv rfl rfl (by decide) (by decide +kernel) (by decide +kernel) (fun _ _ _ h => h) (hSt) (Or.inl ⟨by rfl, fun w' hS' => by go_simp⟩) (fun inv' => ?_)
      clear inv; have inv := inv'; clear inv'
      simp only [List.setIfInBounds_toArray, List.set_cons_zero, List.set_cons_succ]
      refine till_at 11 23 (.int .i64 (p : Nat)) inv rfl rfl (by decide) (by decide +kernel) (by decide +kernel) (fun _ _ _ h => h) (hSt) (Or.inl ⟨by rfl, fun w' hS' => by go_simp⟩) (fun inv' => ?_)
      clear inv; have inv := inv'; clear inv'
      simp only [List.setIfInBounds_toArray, List.set_cons_zero, List.set_cons_succ]
      refine till_at 12 24 (.pointer (some ⟨gr, p, none⟩)) inv rfl rfl (by decide) (by decide +kernel) (by decide +kernel) (fun _ _ _ h => h) (hSt) (Or.inl ⟨by rfl, fun w' hS' => by go_simp⟩) (fun inv' => ?_)
      clear inv; have inv := inv'; clear inv'
      simp only [List.setIfInBounds_toArray, List.set_cons_zero, List.set_cons_succ]
      refine till_at 13 25 (.int .u8 (b : Nat)) inv rfl rfl (by decide) (by decide +kernel) (by decide +kernel) (fun _ _ _ h => h) (hSt) (Or.inl ⟨by rfl, fun w' hS' => by have q1 := hS'.2.2.1; go_simp⟩) (fun inv' => ?_)
      clear inv; have inv := inv'; clear inv'
      simp only [List.setIfInBounds_toArray, List.set_cons_zero, List.set_cons_succ]
      refine till_at 14 26 (.int .u8 (x : Nat)) inv rfl rfl (by decide) (by decide +kernel) (by decide +kernel) (fun _ _ _ h => h) (hSt) (Or.inl ⟨by rfl, fun w' hS' => by go_simp⟩) (fun inv' => ?_)
      clear inv; have inv := inv'; clear inv'
      simp only [List.setIfInBounds_toArray, List.set_cons_zero, List.set_cons_succ]
      refine till_tail (i := 15) (by decide +kernel) (by decide) rfl (fun Kx hK => ?_)
      rw [if_pos (by kernel_rfl)]
      go_simp
      refine hK.out _ _ ?_
      clear hK Kx
      try simp only [Act.put, List.setIfInBounds_toArray, List.set_cons_zero, List.set_cons_succ]
      refine till_tail (i := 16) (by decide +kernel) (by decide) rfl (fun Kx hK => ?_)
      rw [if_pos (by kernel_rfl)]
      have q1 := hSt.1
      have q2 := hSt.2.2.2
      go_simp
      refine hK.out _ _ ?_
      clear hK Kx
      refine till_done (by decide +kernel) ?_ _
      refine NoPanic.normal ?_
      clear q1 q2 hSt
      have HN : Hid (Below w.heap.size w ((wr.setCell ⟨w.heap.size, k, none⟩ (.int .u8 (x : Nat))).drew) ∧ Ar ((wr.setCell ⟨w.heap.size, k, none⟩ (.int .u8 (x : Nat))).drew) w.heap.size (fun j => if j < k + 1 then F2 j else f j) ∧ ((wr.setCell ⟨w.heap.size, k, none⟩ (.int .u8 (x : Nat))).drew).there B1 0 16) := by
        refine ⟨(HJ.out.1.setCell (Nat.le_refl _) _).drew, ?_, World.there_setCells HJ.out.2.2 _ _ [_]⟩
        have h1 := HJ.out.2.1.set k x hlt
        have h2 : Ar ((wr.setCell ⟨w.heap.size, k, none⟩ (.int .u8 (x : Nat))).drew) w.heap.size (fun j => if j = k then x else if j < k then F2 j else f j) := ⟨h1.c, h1.t⟩
        refine h2.congr (fun j hj => ?_)
        by_cases e : j = k
        · subst e; rw [if_pos rfl, if_pos (by omega), HX.out]
        · rw [if_neg e]
          by_cases e2 : j < k
          · rw [if_pos e2, if_pos (by omega)]
          · rw [if_neg e2, if_neg (by omega)]
      generalize (wr.setCell ⟨w.heap.size, k, none⟩ (.int .u8 (x : Nat))).drew = wn at HN ⊢
      go_wp2
      refine ⟨⟨k + 1, by omega, rfl, HN.out⟩, by simp only [intOf]; omega⟩
    · obtain rfl : k = 16 := by omega
      have HA : Hid (Ar wr w.heap.size F2) := HJ.out.2.1.congr (fun j hj => by rw [if_pos (by omega)])
      have HRg : Hid (wr.rangeAt w.heap.size 0 (arL F2)) := HA.out.range
      obtain ⟨RL, HRL⟩ : ∃ L, Hid (L = arL F2) := ⟨_, rfl⟩
      have HRA : Hid (R2 = RL.toArray) := by show _ = _; rw [HR2.out, HRL.out, arL_array]
      rw [← HRL.out] at HRg
      have HLl : Hid (RL.length = 16) := by show _ = _; rw [HRL.out]; rfl
      have h41 : Hid ((Tryd.prog.info? 41).map (·.size) = some RL.length) := by show _ = _; rw [HLl.out]; exact size41
      have HTh : Hid (wr.there B1 0 RL.toArray.size) := by show World.there _ _ _ _; rw [List.size_toArray, HLl.out]; exact HJ.out.2.2
      have h41' : Hid ((Tryd.prog.info? 41).map (·.size) = some RL.toArray.size) := by show _ = _; rw [List.size_toArray]; exact h41.out
      have h1c : Hid (RL.toArray.all (·.oneCell') = true) := by show _ = _; rw [HRL.out, arL_array]; exact arA_one _
      clear hlt hk
      go_wp2_with (first
        | (refine wpList_load_mid (by rfl) 41 (.tmp 4) (by rfl) w.heap.size 0 (by rfl) RL _ HRg.out Tryd.underlying41 rfl h41.out ?_)
        | (refine wpList_store_mid (by rfl) 41 (.tmp 6) (.tmp 28) (by rfl) B1 0 RL.toArray (by rfl) (by rfl) HTh.out h41'.out h1c.out ?_))
      refine ret_array RL Tryd.results45 rfl ?_ Tryd.underlying41 rfl h41.out ⟨by rw [HRA.out], ?_⟩
      · exact World.rangeAt_setCells_same _ _ _ _ (by rw [HLl.out]; exact HJ.out.2.2)
      · exact belowB_setCells _ hB1.2 _ _ _ HJ.out.1
end Go.Proofs.YtgmfiljjogdccaaDoor
