import Derived.Test.YtgmfiljjogdccaaDoorPart05
import Derived.Test.YtgmfiljjogdccaaDoorPart03
import Derived.Test.YtgmfiljjogdccaaDoorBlk
import Derived.WalkKit
import Derived.Deep.RegionHeld3
import Derived.Great.BuildSlice
import Derived.Maps.AppendAt
import Derived.Below
import Derived.Test.YtgmfiljjogdccaaDoorProg
import Derived.Deep.QuietTactic
import Derived.BigQuiet
import Derived.Deep.Draws
import Derived.Laws.BitsAllLaws
import Derived.Laws.AppendOwnNone
import Derived.Deep.DeepMust
import Derived.Laws.OwnMore
namespace Go.Proofs.YtgmfiljjogdccaaDoor
open Go.RowKit
set_option linter.unusedVariables false
/-- S and its inverse as cells. -/
def sbL : List Value := (List.range 256).map fun j => .int .u8 (SB j : Nat)
def ubL : List Value := (List.range 256).map fun j => .int .u8 (UB j : Nat)
theorem sbL_at (j : Nat) (h : j < 256) : sbL[j]? = some (.int .u8 (SB j : Nat)) := by simp [sbL, h]
theorem ubL_at (j : Nat) (h : j < 256) : ubL[j]? = some (.int .u8 (UB j : Nat)) := by simp [ubL, h]
theorem sbL_len : sbL.length = 256 := by simp [sbL]
theorem ubL_len : ubL.length = 256 := by simp [ubL]
theorem sbL_one : sbL.toArray.all (·.oneCell') = true := all_oneCell_toArray (fun v hv => by
  simp only [sbL, List.mem_map] at hv
  obtain ⟨j, _, rfl⟩ := hv
  rfl)
theorem ubL_one : ubL.toArray.all (·.oneCell') = true := all_oneCell_toArray (fun v hv => by
  simp only [ubL, List.mem_map] at hv
  obtain ⟨j, _, rfl⟩ := hv
  rfl)
theorem sbL_range {w : World} {b o : Nat} (h : ∀ j, j < 256 → w.cell? ⟨b, o + j, none⟩ = some (.int .u8 (SB j : Nat))) : w.rangeAt b o sbL := fun j v hv => by
  have hj : j < 256 := by have := (List.getElem?_eq_some_iff.1 hv).1; rw [sbL_len] at this; exact this
  rw [sbL_at j hj] at hv
  rw [h j hj]; exact hv
theorem ubL_range {w : World} {b o : Nat} (h : ∀ j, j < 256 → w.cell? ⟨b, o + j, none⟩ = some (.int .u8 (UB j : Nat))) : w.rangeAt b o ubL := fun j v hv => by
  have hj : j < 256 := by have := (List.getElem?_eq_some_iff.1 hv).1; rw [ubL_len] at this; exact this
  rw [ubL_at j hj] at hv
  rw [h j hj]; exact hv
theorem size65 : (Tryd.prog.info? 65).map (·.size) = some 256 := by kernel_rfl
theorem zsize65 : Tryd.zeroCells65.size = 256 := by kernel_rfl
/-- What stands while the boxes are filled. -/
structure BxS (w : World) (b1 b2 b3 : Nat) (u : World) : Prop where
  old : Below w.heap.size w u
  r0 : u.there w.heap.size 0 256
  r1 : u.there b1 0 256
  s : u.there b2 0 256
  t : u.there b3 0 256
theorem BxS.set {w u : World} {b1 b2 b3 : Nat} (h : BxS w b1 b2 b3 u) (b j : Nat) (v : Value) (hb : w.heap.size ≤ b) : BxS w b1 b2 b3 (u.setCell ⟨b, j, none⟩ v) :=
  ⟨h.old.setCell hb _, World.there_setCells h.r0 _ _ [_], World.there_setCells h.r1 _ _ [_], World.there_setCells h.s _ _ [_], World.there_setCells h.t _ _ [_]⟩
theorem bx_start (w : World) (C : Array Value) (hC : C.size = 256) : BxS w (w.heap.size + 1) (w.heap.size + 1 + 1) (w.heap.size + 1 + 1 + 1) ((((w.alloc (.cells C 65)).alloc (.cells C 65)).alloc (.cells C 65)).alloc (.cells C 65)) := by
  have hl : 256 ≤ C.size := by omega
  have s1 : (w.alloc (.cells C 65)).heap.size = w.heap.size + 1 := by simp
  have s2 : ((w.alloc (.cells C 65)).alloc (.cells C 65)).heap.size = w.heap.size + 1 + 1 := by simp
  have s3 : (((w.alloc (.cells C 65)).alloc (.cells C 65)).alloc (.cells C 65)).heap.size = w.heap.size + 1 + 1 + 1 := by simp
  refine ⟨((((Below.refl _ w).alloc (Nat.le_refl _) _).alloc (by omega) _).alloc (by omega) _).alloc (by omega) _, ?_, ?_, ?_, ?_⟩
  · exact World.there_alloc (World.there_alloc (World.there_alloc (there_new w C 65 256 hl) _) _) _
  · have := there_new (w.alloc (.cells C 65)) C 65 256 hl
    rw [s1] at this
    exact World.there_alloc (World.there_alloc this _) _
  · have := there_new ((w.alloc (.cells C 65)).alloc (.cells C 65)) C 65 256 hl
    rw [s2] at this
    exact World.there_alloc this _
  · have := there_new (((w.alloc (.cells C 65)).alloc (.cells C 65)).alloc (.cells C 65)) C 65 256 hl
    rw [s3] at this
    exact this
theorem there_cell {w : World} {b n : Nat} (h : w.there b 0 n) (j : Nat) (hj : j < n) : ∃ v, w.cell? ⟨b, j, none⟩ = some v := by
  have := (h j hj).1
  rw [Nat.zero_add] at this
  exact Option.isSome_iff_exists.1 this
theorem there_froz {w : World} {b n : Nat} (h : w.there b 0 n) (j : Nat) (hj : j < n) : w.frozen? ⟨b, j, none⟩ = false := by
  have := (h j hj).2
  rw [Nat.zero_add] at this
  exact this
theorem set_same {w : World} {b n j : Nat} (v : Value) (h : w.there b 0 n) (hj : j < n) : (w.setCell ⟨b, j, none⟩ v).cell? ⟨b, j, none⟩ = some v := by
  have := cell_same (i := j) v h hj
  rw [Nat.zero_add] at this
  exact this
theorem results_cell_cell {fn : Func} {p u : Tmp} {ty : TypeId} (h : fn.results = #[.cell p ty, .cell u ty]) (tmps : Array Value) (P : Program) (w : World) :
    (results fn tmps).run P w =
      ((asAddr (tmps.getD p undef)).run P w).andThen fun a w₁ => ((loadVar ty a).run P w₁).andThen fun v w₂ => ((asAddr (tmps.getD u undef)).run P w₂).andThen fun c w₃ => ((loadVar ty c).run P w₃).andThen fun x w₄ => .ok (.tuple #[v, x]) w₄ := by
  simp only [results, h]
  simp [Sem.run_bind, Result.andThen]
theorem ret_cells2 {P : Program} {fn : Func} {p t : Tmp} {ty : TypeId} {d : TypeDesc} {Q : Ending → World → Prop} {tmps : Array Value} {w : World} {b c : Nat} (cs ds : List Value) (h : fn.results = #[.cell p ty, .cell t ty])
    (hp : tmps.getD p undef = .pointer (some ⟨b, 0, none⟩)) (ht : tmps.getD t undef = .pointer (some ⟨c, 0, none⟩)) (hr : w.rangeAt b 0 cs) (hs : w.rangeAt c 0 ds) (hu : P.underlying ty = some d) (hd : d.isRow = true) (hi : (P.info? ty).map (·.size) = some cs.length) (hj : (P.info? ty).map (·.size) = some ds.length)
    (hq : Q (.returned (.tuple #[.agg cs.toArray, .agg ds.toArray])) w) : bodyPost P fn Q .ret ⟨tmps, []⟩ w := by
  refine bodyPost_ret (v := .tuple #[.agg cs.toArray, .agg ds.toArray]) ?_ rfl hq
  rw [results_cell_cell h]
  have hl := run_loadVar_mid (P := P) w b 0 ty cs d hr hu hd hi
  have hm := run_loadVar_mid (P := P) w c 0 ty ds d hs hu hd hj
  simp [hp, ht, asAddr, hl, hm]
set_option maxHeartbeats 1600000 in
set_option maxRecDepth 100000 in
theorem boxes_ok (w : World) : Calls Tryd.prog 37 #[] w fun e w' => e = .returned (.tuple #[.agg sbL.toArray, .agg ubL.toArray]) ∧ Below w.heap.size w w' := by
  have HB := bx_start w Tryd.zeroCells65 zsize65
  go_enter Tryd.func37, Tryd.ntmps37
  go_wp2
  have HI : Hid (BxS w (w.heap.size + 1) (w.heap.size + 1 + 1) (w.heap.size + 1 + 1 + 1) ((((w.alloc (.cells Tryd.zeroCells65 65)).alloc (.cells Tryd.zeroCells65 65)).alloc (.cells Tryd.zeroCells65 65)).alloc (.cells Tryd.zeroCells65 65))) := HB
  clear HB
  generalize ((((w.alloc (.cells Tryd.zeroCells65 65)).alloc (.cells Tryd.zeroCells65 65)).alloc (.cells Tryd.zeroCells65 65)).alloc (.cells Tryd.zeroCells65 65)) = w4 at HI ⊢
  obtain ⟨b3, HB3⟩ : ∃ b, Hid (w.heap.size + 1 + 1 + 1 = b) := ⟨_, rfl⟩
  obtain ⟨b2, HB2⟩ : ∃ b, Hid (w.heap.size + 1 + 1 = b) := ⟨_, rfl⟩
  obtain ⟨b1, HB1⟩ : ∃ b, Hid (w.heap.size + 1 = b) := ⟨_, rfl⟩
  rw [HB3.out, HB2.out, HB1.out] at HI ⊢
  have HBB : Hid (w.heap.size < b1 ∧ b1 < b2 ∧ b2 < b3) := ⟨by have := HB1.out; omega, by have := HB1.out; have := HB2.out; omega, by have := HB2.out; have := HB3.out; omega⟩
  clear HB1 HB2 HB3
  go_loopw [4, 5, 6] (fun b y i wr => ∃ k : Nat, k ≤ 255 ∧ i = .int .i64 k ∧ b = .int .u8 (pwT k : Nat) ∧ y = .int .u8 (ivT k : Nat) ∧ Hid (BxS w b1 b2 b3 wr ∧ ∀ j, j < k → wr.cell? ⟨b2, pwT j, none⟩ = some (.int .u8 (SB (pwT j) : Nat)))) (fun _ _ i _ => 255 - (intOf i).toNat)
  case atStart => exact ⟨0, by omega, rfl, rfl, rfl, HI.out, fun j hj => by omega⟩
  case round =>
    obtain ⟨k, hk, rfl, rfl, rfl, HR⟩ := hrel
    by_cases hlt : k < 255
    · obtain ⟨e1, e2, e3⟩ := pw_step ⟨k, hlt⟩
      simp only at e1 e2 e3
      obtain ⟨p, HP⟩ : ∃ p, Hid (p = pwT k) := ⟨_, rfl⟩
      obtain ⟨v, HV⟩ : ∃ p, Hid (p = ivT k) := ⟨_, rfl⟩
      have hp : p < 256 := by rw [HP.out]; exact pwT_lt k
      have hv : v < 256 := by rw [HV.out]; exact ivT_lt k
      have K1 : Hid (∀ u, Calls Tryd.prog 55 #[.int .i64 (v : Nat)] u fun e u' => e = .returned (.int .u8 (SB p : Nat)) ∧ u' = u) := fun u => (refBits_ok v hv u).mono fun e u' ⟨z, _, hz, h1, h2⟩ => ⟨by rw [h1, hz.out, HV.out, e3, HP.out], h2⟩
      have K3 : Hid (∀ u, Calls Tryd.prog 38 #[.int .u8 (p : Nat), .int .u8 3] u fun e u' => e = .returned (.int .u8 (pwT (k + 1) : Nat)) ∧ u' = u) := fun u => (refTimes p 3 hp (by decide) u).mono fun e u' ⟨h1, h2⟩ => ⟨by rw [h1, HP.out, e1], h2⟩
      have K4 : Hid (∀ u, Calls Tryd.prog 38 #[.int .u8 (v : Nat), .int .u8 246] u fun e u' => e = .returned (.int .u8 (ivT (k + 1) : Nat)) ∧ u' = u) := fun u => (refTimes v 246 hv (by decide) u).mono fun e u' ⟨h1, h2⟩ => ⟨by rw [h1, HV.out, e2], h2⟩
      clear e1 e2 e3
      obtain ⟨p', HP'⟩ : ∃ p, Hid (p = pwT (k + 1)) := ⟨_, rfl⟩
      obtain ⟨v', HV'⟩ : ∃ p, Hid (p = ivT (k + 1)) := ⟨_, rfl⟩
      rw [← HP'.out] at K3
      rw [← HV'.out] at K4
      rw [← HP.out, ← HV.out]
      obtain ⟨c0, hc0⟩ := there_cell HR.out.1.s p hp
      have hf0 := there_froz HR.out.1.s p hp
      have hpi : ((p : Nat) : Int) < 256 := by omega
      have hvi : IntKind.i64.wrap ((v : Nat) : Int) = ((v : Nat) : Int) := wraps_i64 _ (by omega) (by omega)
      go_wp2_with (first | (go_at_call 55; (refine (K1.out _).mono ?_); (rintro e2 w2 ⟨rfl, hw2⟩; obtain rfl := hw2.symm)) | (go_at_call 38; (refine (K3.out _).mono ?_)))
      rintro e4 w4 ⟨rfl, hw4⟩
      obtain rfl := hw4.symm
      go_wp2_with (first | (go_at_call 38; (refine (K4.out _).mono ?_)))
      rintro e5 w5 ⟨rfl, hw5⟩
      obtain rfl := hw5.symm
      go_wp2
      refine ⟨⟨k + 1, by omega, rfl, by rw [HP'.out], by rw [HV'.out], HR.out.1.set _ _ _ (by have := HBB.out; omega), fun j hj => ?_⟩, ?_⟩
      · by_cases hjk : p = pwT j
        · rw [← hjk]; exact set_same _ HR.out.1.s hp
        · have hj' : j < k := by
            rcases Nat.lt_or_ge j k with h | h
            · exact h
            · exact absurd (show p = pwT j by rw [show j = k by omega]; exact HP.out) hjk
          rw [cell_other _ _ _ _ _ hjk]
          exact HR.out.2 j hj'
      · simp only [intOf]; omega
    · obtain rfl : k = 255 := by omega
      clear hlt hk
      obtain ⟨p, HP⟩ : ∃ p, Hid (p = pwT 255) := ⟨_, rfl⟩
      obtain ⟨v, HV⟩ : ∃ p, Hid (p = ivT 255) := ⟨_, rfl⟩
      rw [← HP.out, ← HV.out]
      have K1 : Hid (∀ u, Calls Tryd.prog 55 #[.int .i64 0] u fun e u' => e = .returned (.int .u8 (SB 0 : Nat)) ∧ u' = u) := fun u => (refBits_ok 0 (by decide) u).mono fun e u' ⟨z, _, hz, h1, h2⟩ => ⟨by rw [h1, hz.out]; exact congrArg (fun n : Nat => Ending.returned (.int .u8 (n : Nat))) (by decide +kernel : sprN 0 = SB 0), h2⟩
      obtain ⟨z0, HZ0⟩ : ∃ p, Hid (p = SB 0) := ⟨_, rfl⟩
      rw [← HZ0.out] at K1
      obtain ⟨c0, hc0⟩ := there_cell HR.out.1.s 0 (by decide)
      have hf0 := there_froz HR.out.1.s 0 (by decide)
      go_wp2_with (first | (go_at_call 55; (refine (K1.out _).mono ?_); (rintro e2 w2 ⟨rfl, hw2⟩; obtain rfl := hw2.symm)))
      have H2 : Hid (BxS w b1 b2 b3 (wr.setCell ⟨b2, 0, none⟩ (.int .u8 (z0 : Nat))) ∧ ∀ j, j < 256 → (wr.setCell ⟨b2, 0, none⟩ (.int .u8 (z0 : Nat))).cell? ⟨b2, j, none⟩ = some (.int .u8 (SB j : Nat))) := by
        refine ⟨HR.out.1.set _ _ _ (by have := HBB.out; omega), fun j hj => ?_⟩
        by_cases h0 : j = 0
        · subst h0; rw [HZ0.out]; exact set_same _ HR.out.1.s (by decide)
        · rw [cell_other _ _ _ _ _ (fun h => h0 h.symm)]
          rcases lg_all ⟨j, hj⟩ with h | ⟨h1, h2⟩
          · exact absurd h h0
          · simp only at h1 h2
            have := HR.out.2 _ h1
            rw [h2] at this
            exact this
      clear HR hc0 hf0 K1
      generalize wr.setCell ⟨b2, 0, none⟩ (.int .u8 (z0 : Nat)) = w5 at H2 ⊢
      go_loopw [7] (fun i wr => ∃ k : Nat, k ≤ 256 ∧ i = .int .i64 k ∧ Hid (BxS w b1 b2 b3 wr ∧ (∀ j, j < 256 → wr.cell? ⟨b2, j, none⟩ = some (.int .u8 (SB j : Nat))) ∧ ∀ j, j < k → wr.cell? ⟨b3, SB j, none⟩ = some (.int .u8 (j : Nat)))) (fun i _ => 256 - (intOf i).toNat)
      case atStart => exact ⟨0, by omega, rfl, H2.out.1, H2.out.2, fun j hj => by omega⟩
      case round =>
        obtain ⟨k, hk, rfl, HR⟩ := hrel
        by_cases hlt : k < 256
        · have ck := HR.out.2.1 k hlt
          obtain ⟨q, HQ⟩ : ∃ q, Hid (q = SB k) := ⟨_, rfl⟩
          rw [← HQ.out] at ck
          have hq : q < 256 := by rw [HQ.out]; exact SB_lt k
          have hqi : ((q : Nat) : Int) < 256 := by omega
          have hki : ((k : Nat) : Int) < 256 := by omega
          obtain ⟨c1, hc1⟩ := there_cell HR.out.1.t q hq
          have hf1 := there_froz HR.out.1.t q hq
          have hm : ((k : Nat) : Int) % 256 = ((k : Nat) : Int) := by omega
          go_wp2
          refine ⟨⟨k + 1, by omega, rfl, HR.out.1.set _ _ _ (by have := HBB.out; omega), fun j hj => ?_, fun j hj => ?_⟩, ?_⟩
          · rw [World.cell?_setCell_far _ _ _ _ (by have := HBB.out; show b3 ≠ b2; omega)]
            exact HR.out.2.1 j hj
          · by_cases hjk : j = k
            · subst hjk; rw [HQ.out] at hq ⊢; exact set_same _ HR.out.1.t hq
            · rw [cell_other _ _ _ _ _ (fun h => hjk (SB_inj (by omega) hlt (h.symm.trans HQ.out)))]
              exact HR.out.2.2 j (by omega)
          · simp only [intOf]; omega
        · obtain rfl : k = 256 := by omega
          have RS : Hid (wr.rangeAt b2 0 sbL) := sbL_range (fun j hj => by rw [Nat.zero_add]; exact HR.out.2.1 j hj)
          have RU : Hid (wr.rangeAt b3 0 ubL) := ubL_range (fun j hj => by
            rw [Nat.zero_add]
            have := HR.out.2.2 (UB j) (UB_lt j)
            rw [(UB_SB ⟨j, hj⟩).2] at this
            exact this)
          clear hlt hk H2
          go_wp2
          obtain ⟨SL, HSL⟩ : ∃ L, Hid (L = sbL) := ⟨_, rfl⟩
          obtain ⟨UL, HUL⟩ : ∃ L, Hid (L = ubL) := ⟨_, rfl⟩
          rw [← HSL.out] at RS
          rw [← HUL.out] at RU
          have HSl : Hid (SL.toArray.size = 256) := by show _ = _; rw [HSL.out]; exact sbL_len
          have HUl : Hid (UL.toArray.size = 256) := by show _ = _; rw [HUL.out]; exact ubL_len
          have HSo : Hid (SL.toArray.all (·.oneCell') = true) := by show _ = _; rw [HSL.out]; exact sbL_one
          have HUo : Hid (UL.toArray.all (·.oneCell') = true) := by show _ = _; rw [HUL.out]; exact ubL_one
          have hS0 : ∀ p : Addr, b2 ≤ p.block → wr.drew.cell? p = wr.cell? p := fun p _ => rfl
          have G2 : Hid (∀ u : World, (∀ p : Addr, b2 ≤ p.block → u.cell? p = wr.cell? p) → u.rangeAt b2 0 SL) := fun u hu j v hv => (hu _ (Nat.le_refl _)).trans (RS.out j v hv)
          have G3 : Hid (∀ u : World, (∀ p : Addr, b2 ≤ p.block → u.cell? p = wr.cell? p) → u.rangeAt b3 0 UL) := fun u hu j v hv => (hu _ (Nat.le_of_lt HBB.out.2.2)).trans (RU.out j v hv)
          have HT0 : Hid (wr.drew.there w.heap.size 0 SL.toArray.size) := by show World.there _ _ _ _; rw [HSl.out]; exact (World.there_drew _ _ _ _).2 HR.out.1.r0
          have HT1 : Hid (wr.drew.there b1 0 UL.toArray.size) := by show World.there _ _ _ _; rw [HUl.out]; exact (World.there_drew _ _ _ _).2 HR.out.1.r1
          have s65a : Hid ((Tryd.prog.info? 65).map (·.size) = some SL.toArray.size) := by show _ = _; rw [HSl.out]; exact size65
          have s65b : Hid ((Tryd.prog.info? 65).map (·.size) = some UL.toArray.size) := by show _ = _; rw [HUl.out]; exact size65
          refine wp_region_noPanic ?_
          refine wp_region_held_drew (S := fun u => ∀ p : Addr, b2 ≤ p.block → u.cell? p = wr.cell? p) (by kernel_rfl) (hS0) (fun _ => ?_)
          refine takeH_at 0 33 (.agg SL.toArray) rfl rfl (by kernel_rfl) (by kernel_rfl) (by kernel_rfl) (fun _ _ _ h => h) (hS0) (yieldsIf_load_mid (by kernel_rfl) 65 (.tmp 2) rfl b2 0 rfl SL _ (fun u hu => G2.out u hu) Tryd.underlying65 rfl s65a.out) ?_
          simp only [List.setIfInBounds_toArray, List.set_cons_zero, List.set_cons_succ]
          refine takeH_at 1 34 (.agg UL.toArray) rfl rfl (by kernel_rfl) (by kernel_rfl) (by kernel_rfl) (fun _ _ _ h => h) (hS0) (yieldsIf_load_mid (by kernel_rfl) 65 (.tmp 3) rfl b3 0 rfl UL _ (fun u hu => G3.out u hu) Tryd.underlying65 rfl s65b.out) ?_
          simp only [List.setIfInBounds_toArray, List.set_cons_zero, List.set_cons_succ]
          refine wpAnyH_ready (rs := [2]) (by kernel_rfl) (by simp) ?_
          refine AllReadyH.cons rfl (fun Kx hK => ?_) AllReadyH.nil
          rw [if_pos (by kernel_rfl)]
          refine wp_store_mid 65 (.tmp 0) (.tmp 33) rfl w.heap.size 0 SL.toArray rfl rfl HT0.out s65a.out HSo.out ?_
          have hS1 : ∀ p : Addr, b2 ≤ p.block → (wr.drew.setCells w.heap.size 0 SL).cell? p = wr.cell? p := fun p hp => (World.cell?_setCells_out _ _ _ _ _ (fun e => by have := HBB.out; omega)).trans (hS0 p hp)
          refine hK.out _ _ hS1 (fun _ => ?_)
          clear hK Kx
          try simp only [Act.put]
          refine wpAnyH_ready (rs := [3]) (by kernel_rfl) (by simp) ?_
          refine AllReadyH.cons rfl (fun Kx hK => ?_) AllReadyH.nil
          rw [if_pos (by kernel_rfl)]
          refine wp_store_mid 65 (.tmp 1) (.tmp 34) rfl b1 0 UL.toArray rfl rfl (World.there_setCells HT1.out _ _ _) s65b.out HUo.out ?_
          have hS2 : ∀ p : Addr, b2 ≤ p.block → ((wr.drew.setCells w.heap.size 0 SL).setCells b1 0 UL).cell? p = wr.cell? p := fun p hp => (World.cell?_setCells_out _ _ _ _ _ (fun e => by have := HBB.out; omega)).trans (hS1 p hp)
          refine hK.out _ _ hS2 (fun _ => ?_)
          clear hK Kx
          refine wpAnyH_done (by kernel_rfl) ?_ _
          refine NoPanic.normal ?_
          have hlast : Hid (((wr.drew.setCells w.heap.size 0 SL).setCells b1 0 UL).rangeAt w.heap.size 0 SL) := fun j v hv => (World.cell?_setCells_out b1 _ _ _ _ (fun e => by have h1 := HBB.out.1; have h2 : w.heap.size = b1 := e; omega)).trans (World.rangeAt_setCells_same _ _ _ _ HT0.out j v hv)
          have hlast2 : Hid (((wr.drew.setCells w.heap.size 0 SL).setCells b1 0 UL).rangeAt b1 0 UL) := World.rangeAt_setCells_same _ _ _ _ (World.there_setCells HT1.out _ _ _)
          have hbel : Hid (Below w.heap.size w ((wr.drew.setCells w.heap.size 0 SL).setCells b1 0 UL)) := belowB_setCells _ (by have := HBB.out; omega) _ _ _ (belowB_setCells _ (Nat.le_refl _) _ _ _ HR.out.1.old.drew)
          go_wp2
          refine ret_cells2 SL UL Tryd.results37 rfl rfl hlast.out hlast2.out Tryd.underlying65 rfl s65a.out s65b.out ⟨by rw [HSL.out, HUL.out], hbel.out⟩
end Go.Proofs.YtgmfiljjogdccaaDoor
namespace Go.Proofs.YtgmfiljjogdccaaDoor
open Go.RowKit
set_option linter.unusedVariables false
section
variable {P : Program} {ops : Array Oper}
/-- append of one cell to a row that the call owns: the cells that were there stay where they were, too. -/
theorem run_append1 (w : World) (t ty e : TypeId) (i : TypeInfo) (z : Value) (bytes : Nat) (ht : P.underlying t = some (.slice e)) (hi : P.info? e = some i) (hz : i.zero = some z)
    (hsize : i.size = 1) (hby : i.bytes = bytes) (hzs : z.cells.size = 1) (base n : Nat) (v : Value) (xs : List Value) (hown : w.ownsRow base e 1 v n xs) (ad c : Nat) (x : Value) (hx : w.cell? ⟨ad, 0, none⟩ = some x) (hx1 : x.oneCell' = true)
    (h63 : n + 1 ≤ maxLen) (hbytes : (n + 1) * bytes ≤ 140737488355328) (hbase : base ≤ w.heap.size) :
    ∃ g cap w', (Builtin.append_ #[t, t] ty #[v, .slice (some ⟨ad, 0, none⟩) 1 c]).run P w = .ok (.slice (some ⟨g, 0, none⟩) (n + 1) cap) w' ∧
      w'.ownsRow base e 1 (.slice (some ⟨g, 0, none⟩) (n + 1) cap) (n + 1) (xs ++ [x]) ∧ w.grownBy w' v.ownBlock ∧ (v.ownBlock = some g ∨ g = w.heap.size) ∧ (∀ g0, v.ownBlock = some g0 → ∀ j u, xs[j]? = some u → w'.cell? ⟨g0, j, none⟩ = some u) := by
  have hnews : ∀ j u, [x][j]? = some u → w.cell? ((⟨ad, 0, none⟩ : Addr).add j) = some u := by
    intro j u hj
    match j, hj with
    | 0, hj => simp at hj; subst hj; simpa [Addr.add] using hx
    | _ + 1, hj => simp at hj
  have h1 : ∀ u ∈ [x], u.oneCell' = true := by intro u hu; simp at hu; subst hu; exact hx1
  obtain ⟨v', w', hr, h2, h3, h4, h5⟩ := run_append_own_at (P := P) w base t ty e i z 1 bytes ht hi hz hsize hby hzs (by decide) v n xs hown ⟨ad, 0, none⟩ 1 c [x] (by simp) hnews h1 h63 hbytes hbase
  rcases h2.2 with ⟨_, h⟩ | ⟨g, cap, cur, rfl, _⟩
  · omega
  refine ⟨g, cap, w', hr, h2, h3, ?_, ?_⟩
  · rcases h5 with h5 | h5
    · left; exact h5.symm
    · right; simpa [Value.ownBlock] using h5
  · intro g0 hg0 j u hj
    rcases hown.2 with ⟨rfl, _⟩ | ⟨g1, c1, cur1, rfl, hbg, hg, hnc, hcm, hcs, htake⟩
    · simp [Value.ownBlock] at hg0
    · obtain rfl : g1 = g0 := by simpa [Value.ownBlock] using hg0
      by_cases hroom : n + 1 ≤ c1
      · have hfit : n * i.size + [x].length ≤ cur1.size := by rw [hcs, hsize]; simp; omega
        have hr2 := run_append_room (P := P) w t ty e i ht hi g1 n c1 cur1 hg ⟨ad, 0, none⟩ 1 c [x] (by simp [hsize]) hnews h1 hroom hfit
        rw [hr] at hr2
        injection hr2 with e1 e2
        injection e1 with e3 e4 e5
        injection e3 with e6
        injection e6 with e7
        subst e7
        have := h2.cells (g := g) rfl j u (by rw [List.getElem?_append_left (List.getElem?_eq_some_iff.1 hj).1]; exact hj)
        rw [Addr.add_lit, Nat.zero_add] at this
        exact this
      · have holds : ∀ j u, xs[j]? = some u → w.cell? ((⟨g1, 0, none⟩ : Addr).add j) = some u := hown.cells (g := g1) rfl
        have hr2 := run_append_grow (P := P) w t ty e i z ht hi hz ⟨g1, 0, none⟩ n c1 xs (by rw [hsize]; exact hown.1) holds ⟨ad, 0, none⟩ 1 c [x] (by simp [hsize]) hnews (by omega) (by simp only [maxLen] at h63; omega) (growslice_fits (by omega) (by rw [hby]; exact hbytes))
        rw [hr] at hr2
        injection hr2 with e1 e2
        rw [e2]
        have hlt : g1 < w.heap.size := (Array.getElem?_eq_some_iff.1 hg).1
        have := holds j u hj
        have h0 : w.cell? ⟨g1, j, none⟩ = some u := by rw [Addr.add_lit, Nat.zero_add] at this; exact this
        exact (World.cell?_alloc_past (w := w.drew) _ g1 j hlt).trans h0
theorem wp_append1 {w : World} {o : Oper} {a : Act} {K : Act → World → Prop} {Q : Exit → Act → World → Prop} (s x : Operand) (t : TypeId)
    (ho : o.op = .call { callee := .builtin .append, args := #[s, x], argTypes := #[t, t] }) (e : TypeId) (i : TypeInfo) (z : Value) (bytes : Nat) (ht : P.underlying t = some (.slice e)) (hi : P.info? e = some i) (hz : i.zero = some z)
    (hsize : i.size = 1) (hby : i.bytes = bytes) (hzs : z.cells.size = 1) (base n : Nat) (v : Value) (xs : List Value) (hs : a.eval s = v) (hown : w.ownsRow base e 1 v n xs) (ad c : Nat) (y : Value) (hx : a.eval x = .slice (some ⟨ad, 0, none⟩) 1 c) (hy : w.cell? ⟨ad, 0, none⟩ = some y) (hy1 : y.oneCell' = true)
    (h63 : n + 1 ≤ maxLen) (hbytes : (n + 1) * bytes ≤ 140737488355328) (hbase : base ≤ w.heap.size)
    (h : ∀ g cap w', w'.ownsRow base e 1 (.slice (some ⟨g, 0, none⟩) (n + 1) cap) (n + 1) (xs ++ [y]) → w.grownBy w' v.ownBlock → (v.ownBlock = some g ∨ g = w.heap.size) → (∀ g0, v.ownBlock = some g0 → ∀ j u, xs[j]? = some u → w'.cell? ⟨g0, j, none⟩ = some u) → K (a.put o.dst (.slice (some ⟨g, 0, none⟩) (n + 1) cap)) w') : o.wp P a w K Q := by
  obtain ⟨g, cap, w', hr, h2, h3, h4, h5⟩ := run_append1 (P := P) w t o.type e i z bytes ht hi hz hsize hby hzs base n v xs hown ad c y hy hy1 h63 hbytes hbase
  unfold Oper.wp execOp
  simp only [ho, resolve, invoke, builtin, Sem.run_bind, Sem.run_pure, Result.andThen_ok, List.map_toArray, List.map_cons, List.map_nil, hs, hx, hr]
  exact h g cap w' h2 h3 h4 h5
theorem step_append1 {w : World} {o : Oper} {a : Act} {K : Act → World → Prop} {Q : Exit → Act → World → Prop} {E : Prop} (hgd : o.guard = none) (d : Nat) (hd : o.dst = some d) (s x : Operand) (t : TypeId)
    (ho : o.op = .call { callee := .builtin .append, args := #[s, x], argTypes := #[t, t] }) (e : TypeId) (i : TypeInfo) (z : Value) (bytes : Nat) (ht : P.underlying t = some (.slice e)) (hi : P.info? e = some i) (hz : i.zero = some z)
    (hsize : i.size = 1) (hby : i.bytes = bytes) (hzs : z.cells.size = 1) (base n : Nat) (v : Value) (xs : List Value) (hs : a.eval s = v) (hown : w.ownsRow base e 1 v n xs) (ad c : Nat) (y : Value) (hx : a.eval x = .slice (some ⟨ad, 0, none⟩) 1 c) (hy : w.cell? ⟨ad, 0, none⟩ = some y) (hy1 : y.oneCell' = true)
    (h63 : n + 1 ≤ maxLen) (hbytes : (n + 1) * bytes ≤ 140737488355328) (hbase : base ≤ w.heap.size)
    (h : ∀ g cap w', w'.ownsRow base e 1 (.slice (some ⟨g, 0, none⟩) (n + 1) cap) (n + 1) (xs ++ [y]) → w.grownBy w' v.ownBlock → (v.ownBlock = some g ∨ g = w.heap.size) → (∀ g0, v.ownBlock = some g0 → ∀ j u, xs[j]? = some u → w'.cell? ⟨g0, j, none⟩ = some u) → K (a.put (some d) (.slice (some ⟨g, 0, none⟩) (n + 1) cap)) w') :
    if Region.wanted o (yielded ops a.tmps) = true then Oper.wp P o a w K Q else E := by
  have hw : Region.wanted o (yielded ops a.tmps) = true := by simp [Region.wanted, hgd]
  rw [if_pos hw]
  rw [← hd] at h
  exact wp_append1 s x t ho e i z bytes ht hi hz hsize hby hzs base n v xs hs hown ad c y hx hy hy1 h63 hbytes hbase h
theorem step_bs {o : Oper} {a : Act} {w : World} {K : Act → World → Prop} {Q : Exit → Act → World → Prop} {E : Prop} (hgd : o.guard = none) (d : Nat) (hd : o.dst = some d) (t e : TypeId) (len : Nat) (parts : Array (Nat × Operand)) (ho : o.op = .buildSlice t len parts) (pv : Array (Nat × Value)) (hpv : (parts.map fun (i, x) => (i, a.eval x)) = pv) (cells : Array Value)
    (hr : ∀ u : World, (Instr.buildSlice t len pv).run P u = .ok (.slice (some ⟨u.heap.size, 0, none⟩) len len) (u.alloc (.cells cells e)))
    (h : K (a.put (some d) (.slice (some ⟨w.heap.size, 0, none⟩) len len)) (w.alloc (.cells cells e))) :
    if Region.wanted o (yielded ops a.tmps) = true then Oper.wp P o a w K Q else E := by
  have hw : Region.wanted o (yielded ops a.tmps) = true := by simp [Region.wanted, hgd]
  rw [if_pos hw]
  rw [← hd] at h
  unfold Oper.wp execOp
  simp only [ho, Sem.run_bind, hpv, hr w, Result.andThen_ok]
  exact h
end
end Go.Proofs.YtgmfiljjogdccaaDoor
namespace Go.Proofs.YtgmfiljjogdccaaDoor
open Go.RowKit

/-- A list of bytes behind a slice value. -/
def View (w : World) (v : Value) (zs : List Int) : Prop :=
  ∃ a cap, v = .slice a zs.length cap ∧ zs.length ≤ cap ∧ cap ≤ maxLen ∧ (a = none → cap = 0) ∧
    (zs = [] ∨ ∃ b off, a = some ⟨b, off, none⟩ ∧ ∀ i, i < zs.length → w.cell? ⟨b, off + i, none⟩ = some (.int .u8 (zs.getD i 0)))

theorem ret_bool {a b : Bool} (h : a = b) : Ending.returned (.bool a) = .returned (.bool b) := by rw [h]
theorem ext_getD {xs ys : List Int} {n : Nat} (hx : xs.length = n) (hy : ys.length = n) (h : ∀ j, j < n → xs.getD j 0 = ys.getD j 0) : xs = ys := by
  apply List.ext_getElem (by omega)
  intro i h1 h2
  have := h i (by omega)
  simpa [List.getD, List.getElem?_eq_getElem h1, List.getElem?_eq_getElem h2] using this

set_option maxHeartbeats 400000 in
theorem same_core (b1 o1 b2 o2 c1 c2 n : Nat) (xs ys : List Int) (w : World) (hx : xs.length = n) (hy : ys.length = n) (hn : n ≤ 9223372036854775807)
    (h1 : ∀ i, i < n → w.cell? ⟨b1, o1 + i, none⟩ = some (.int .u8 (xs.getD i 0)))
    (h2 : ∀ i, i < n → w.cell? ⟨b2, o2 + i, none⟩ = some (.int .u8 (ys.getD i 0))) :
    Calls Tryd.prog 30 #[.slice (some ⟨b1, o1, none⟩) n c1, .slice (some ⟨b2, o2, none⟩) n c2] w fun e w' => e = .returned (.bool (decide (xs = ys))) ∧ ∃ m, w' = w.drewN m := by
  have HX : Hid (xs.length = n) := hx
  have HY : Hid (ys.length = n) := hy
  clear hx hy
  go_enter Tryd.func30, Tryd.ntmps30
  go_wp2
  go_loopw [5] (fun i wr => ∃ k : Nat, k ≤ n ∧ i = .int .i64 k ∧ Hid (∀ j, j < k → xs.getD j 0 = ys.getD j 0) ∧ ∃ m, wr = w.drewN m) (fun i _ => n - (intOf i).toNat)
  case atStart => exact ⟨0, Nat.zero_le _, rfl, (fun j hj => by omega), 0, rfl⟩
  case round =>
    obtain ⟨k, hk, rfl, HE, m, rfl⟩ := hrel
    by_cases hlt : k < n
    · have g1 := h1 k hlt
      have g2 := h2 k hlt
      clear h1 h2
      go_wp2
      go_quiet (fail)
      go_wp2
      · have hne : (xs[k]?.getD 0 != ys[k]?.getD 0) = true := by assumption
        go_ret
        refine ⟨ret_bool ?_, _, World.drewN_drewN _ _ _⟩
        have : xs ≠ ys := by
          intro h
          subst h
          simp at hne
        simp [this]
      · have heq : (xs[k]?.getD 0 != ys[k]?.getD 0) = false := by assumption
        go_roundw
        case rel =>
          refine ⟨k + 1, by omega, by go_num, ?_, _, rfl⟩
          intro j hj
          by_cases hjk : j < k
          · exact HE.out j hjk
          · obtain rfl : j = k := by omega
            simpa using heq
        case measure => simp [intOf]; omega
    · go_wp2
      go_ret
      have := ext_getD HX.out HY.out (fun j hj => HE.out j (by omega))
      exact ⟨ret_bool (by simp [this]), _, rfl⟩

theorem same_zero (a1 a2 : Option Addr) (c1 c2 : Nat) (w : World) :
    Calls Tryd.prog 30 #[.slice a1 0 c1, .slice a2 0 c2] w fun e w' => e = .returned (.bool true) ∧ ∃ m, w' = w.drewN m := by
  go_enter Tryd.func30, Tryd.ntmps30
  go_wp2
  go_loop [5] (fun i => i = .int .i64 0) (fun _ => 0)
  case atStart => rfl
  case round =>
    subst hrel
    go_wp2
    go_ret
    exact ⟨rfl, 0, rfl⟩

theorem same_unlike (a1 a2 : Option Addr) (l1 l2 c1 c2 : Nat) (w : World) (h : l1 ≠ l2) :
    Calls Tryd.prog 30 #[.slice a1 l1 c1, .slice a2 l2 c2] w fun e w' => e = .returned (.bool false) ∧ ∃ m, w' = w.drewN m := by
  have hb : ((l1 : Int) != (l2 : Int)) = true := by rw [bne_iff_ne]; omega
  clear h
  go_enter Tryd.func30, Tryd.ntmps30
  go_wp2
  go_ret
  exact ⟨rfl, 0, rfl⟩

/-- cofferbook.SameBytes. -/
theorem same_any (v1 v2 : Value) (xs ys : List Int) (w : World) (h1 : View w v1 xs) (h2 : View w v2 ys) :
    Calls Tryd.prog 30 #[v1, v2] w fun e w' => e = .returned (.bool (decide (xs = ys))) ∧ ∃ m, w' = w.drewN m := by
  obtain ⟨a1, c1, rfl, hl1, hm1, _, k1⟩ := h1
  obtain ⟨a2, c2, rfl, hl2, hm2, _, k2⟩ := h2
  by_cases hl : xs.length = ys.length
  · rcases k1 with rfl | ⟨b1, o1, rfl, g1⟩
    · have : ys = [] := List.eq_nil_of_length_eq_zero (by simpa using hl.symm)
      subst this
      simpa using same_zero a1 a2 c1 c2 w
    · rcases k2 with rfl | ⟨b2, o2, rfl, g2⟩
      · have : xs = [] := List.eq_nil_of_length_eq_zero (by simpa using hl)
        subst this
        simpa using same_zero _ a2 c1 c2 w
      · rw [← hl]
        exact same_core b1 o1 b2 o2 c1 c2 xs.length xs ys w rfl hl.symm (by unfold maxLen at hm1; omega) g1 (by rw [hl]; exact g2)
  · have hne : xs ≠ ys := fun h => hl (by rw [h])
    have hd : decide (xs = ys) = false := by simpa using hne
    rw [hd]
    exact same_unlike a1 a2 _ _ c1 c2 w hl
end Go.Proofs.YtgmfiljjogdccaaDoor
namespace Go.Proofs.YtgmfiljjogdccaaDoor
/-- Numbers that are bytes. -/
def AllBytes (zs : List Int) : Prop := ∀ i, 0 ≤ zs.getD i 0 ∧ zs.getD i 0 < 256
end Go.Proofs.YtgmfiljjogdccaaDoor
namespace Go.Proofs.YtgmfiljjogdccaaDoor
open Go.RowKit

theorem Tryd.info5 : (Tryd.prog.info? 5).map (fun i => (i.zero, i.size, i.bytes)) = some (some (.int .u8 0), 1, 1) := by kernel_rfl

/-- The marks behind a copy. -/
def marks (k : Nat) : List Int := (List.range k).map fun (i : Nat) => (181 + (i : Int))
theorem marks_length (k : Nat) : (marks k).length = k := by simp [marks]
theorem marks_succ (k : Nat) : marks (k + 1) = marks k ++ [(181 + (k : Int))] := by simp [marks, List.range_succ]
/-- Bytes as cells. -/
def cellsU8 (zs : List Int) : List Value := zs.map (Value.int .u8)
theorem cellsU8_append (a b : List Int) : cellsU8 (a ++ b) = cellsU8 a ++ cellsU8 b := by simp [cellsU8]
theorem cellsU8_length (a : List Int) : (cellsU8 a).length = a.length := by simp [cellsU8]
theorem cellsU8_one (a : List Int) : ∀ u ∈ cellsU8 a, u.oneCell' = true := by
  intro u hu
  obtain ⟨_, _, rfl⟩ := List.mem_map.1 hu
  rfl
theorem cellsU8_at (a : List Int) (w : World) (b off : Nat) (h : ∀ i, i < a.length → w.cell? ⟨b, off + i, none⟩ = some (.int .u8 (a.getD i 0))) :
    ∀ j u, (cellsU8 a)[j]? = some u → w.cell? ((⟨b, off, none⟩ : Addr).add j) = some u := by
  intro j u hu
  simp only [cellsU8, List.getElem?_map, Option.map_eq_some_iff] at hu
  obtain ⟨z, hz, rfl⟩ := hu
  have hj : j < a.length := (List.getElem?_eq_some_iff.1 hz).1
  have := h j hj
  rw [List.getD_eq_getElem?_getD, hz] at this
  rw [Addr.add_lit]
  simpa using this

set_option maxHeartbeats 800000 in
set_option maxRecDepth 100000 in
theorem copy_some (x : Addr) (n cap : Nat) (zs : List Int) (w : World) (hz : Hid (zs.length = n)) (hn : n + 70 ≤ 140737488355328)
    (h1 : Hid (∀ j u, (cellsU8 zs)[j]? = some u → w.cell? (x.add j) = some u)) :
    Calls Tryd.prog 8 #[.slice (some x) n cap] w fun e w' => ∃ g c, e = .returned (.slice (some ⟨g, 0, none⟩) n c) ∧ w'.ownsRow w.heap.size 5 1 (.slice (some ⟨g, 0, none⟩) (n + 70) c) (n + 70) (cellsU8 (zs ++ marks 70)) ∧ Below w.heap.size w w' := by
  obtain ⟨i0, hi, hz0, hz1, hz2⟩ := info_parts Tryd.info5
  go_enter Tryd.func8, Tryd.ntmps8
  go_wp2_with (first
    | (at_builtin; go_must (refine wpList_append_own _ rfl (.tmp 6) (.tmp 7) 22 rfl w.heap.size 5 i0 (.int .u8 0) 1 1 Tryd.underlying22 hi hz0 hz1 hz2 rfl (by decide) _ 0 [] rfl (World.ownsRow_nil _ _ _ _) x n cap (cellsU8 zs) rfl ?_ h1.out (cellsU8_one zs) ?_ ?_ (Nat.le_refl _) ?_)))
  · rw [cellsU8_length, hz.out, Nat.mul_one]
  · unfold maxLen; omega
  · omega
  intro v1 w1 hown hgrow hnil
  have hb0 : Below w.heap.size w w1 := (Below.refl _ _).grown hgrow (Nat.le_refl _) (by intro k hk; cases hk)
  have HB : Hid (Below w.heap.size w w1) := hb0
  clear hgrow hb0 hnil
  go_wp2
  go_loopw [3, 4] (fun v i wr => ∃ k : Nat, k ≤ 70 ∧ i = .int .i64 k ∧ wr.ownsRow w.heap.size 5 1 v (n + k) (cellsU8 (zs ++ marks k)) ∧ Hid (Below w.heap.size w wr)) (fun _ i _ => 70 - (intOf i).toNat)
  case atStart => exact ⟨0, by omega, rfl, by simpa [marks] using hown, HB⟩
  case round =>
    obtain ⟨k, hk, rfl, hown2, HB2⟩ := hrel
    clear hown HB
    by_cases hlt : k < 70
    · go_wp2_with (first
        | (at_builtin; go_must (refine wpList_append_own _ rfl (.tmp 13) (.tmp 17) 22 rfl w.heap.size 5 i0 (.int .u8 0) 1 1 Tryd.underlying22 hi hz0 hz1 hz2 rfl (by decide) _ _ _ rfl (hown2.alloc _) ⟨wr.heap.size, 0, none⟩ 1 1 [.int .u8 (181 + (k : Int))] rfl rfl ?_ ?_ ?_ ?_ ?_ ?_)))
      · intro j u hj
        match j, hj with
        | 0, hj => simp at hj; subst hj; simp [Addr.add]
      · intro u hu; simp at hu; subst hu; rfl
      · unfold maxLen; omega
      · omega
      · have := HB2.out.size; simp; omega
      intro v2 w2 hown3 hgrow2 hnil2
      have HB3 : Hid (Below w.heap.size w w2) := (HB2.out.alloc HB2.out.size _).grown hgrow2 (by have := HB2.out.size; simp; omega) (fun q hq => (hown2.lt q hq).1)
      have ho3 : w2.ownsRow w.heap.size 5 1 v2 (n + (k + 1)) (cellsU8 (zs ++ marks (k + 1))) := by
        rw [marks_succ, ← List.append_assoc, cellsU8_append]
        simpa [cellsU8, Nat.add_assoc] using hown3
      have HO3 : Hid (w2.ownsRow w.heap.size 5 1 v2 (n + (k + 1)) (cellsU8 (zs ++ marks (k + 1)))) := ho3
      clear ho3 hown3 hgrow2 hnil2 hown2 HB2
      go_wp2
      go_roundw
      case rel => exact ⟨k + 1, by omega, by go_num, HO3, HB3⟩
      case measure => simp [intOf]; omega
    · obtain rfl : k = 70 := by omega
      obtain ⟨hlen, hcase⟩ := hown2
      rcases hcase with ⟨_, hc⟩ | ⟨g, c, cur, rfl, hg1, hg2, hg3, hg4, hg5, hg6⟩
      · omega
      have HO : Hid (wr.ownsRow w.heap.size 5 1 (.slice (some ⟨g, 0, none⟩) (n + 70) c) (n + 70) (cellsU8 (zs ++ marks 70))) := ⟨hlen, .inr ⟨g, c, cur, rfl, hg1, hg2, hg3, hg4, hg5, hg6⟩⟩
      clear hlen hg1 hg2 hg5 hg6 hlt
      unfold maxLen at hg4
      go_wp2
      go_ret
      exact ⟨g, c, rfl, HO, HB2⟩
set_option maxHeartbeats 800000 in
set_option maxRecDepth 100000 in
theorem copy_nil (w : World) :
    Calls Tryd.prog 8 #[.slice none 0 0] w fun e w' => ∃ g c, e = .returned (.slice (some ⟨g, 0, none⟩) 0 c) ∧ w'.ownsRow w.heap.size 5 1 (.slice (some ⟨g, 0, none⟩) 70 c) 70 (cellsU8 (marks 70)) ∧ Below w.heap.size w w' := by
  obtain ⟨i0, hi, hz0, hz1, hz2⟩ := info_parts Tryd.info5
  go_enter Tryd.func8, Tryd.ntmps8
  go_wp2_with (first
    | (at_builtin; go_must (refine wpList_append_own_none rfl (.tmp 6) (.tmp 7) 22 rfl w.heap.size 5 i0 1 Tryd.underlying22 hi _ 0 [] rfl (World.ownsRow_nil _ _ _ _) rfl ?_)))
  go_wp2
  go_loopw [3, 4] (fun v i wr => ∃ k : Nat, k ≤ 70 ∧ i = .int .i64 k ∧ wr.ownsRow w.heap.size 5 1 v k (cellsU8 (marks k)) ∧ Hid (Below w.heap.size w wr)) (fun _ i _ => 70 - (intOf i).toNat)
  case atStart => exact ⟨0, by omega, rfl, World.ownsRow_nil _ _ _ _, Below.refl _ _⟩
  case round =>
    obtain ⟨k, hk, rfl, hown2, HB2⟩ := hrel
    by_cases hlt : k < 70
    · go_wp2_with (first
        | (at_builtin; go_must (refine wpList_append_own _ rfl (.tmp 13) (.tmp 17) 22 rfl w.heap.size 5 i0 (.int .u8 0) 1 1 Tryd.underlying22 hi hz0 hz1 hz2 rfl (by decide) _ _ _ rfl (hown2.alloc _) ⟨wr.heap.size, 0, none⟩ 1 1 [.int .u8 (181 + (k : Int))] rfl rfl ?_ ?_ ?_ ?_ ?_ ?_)))
      · intro j u hj
        match j, hj with
        | 0, hj => simp at hj; subst hj; simp [Addr.add]
      · intro u hu; simp at hu; subst hu; rfl
      · unfold maxLen; omega
      · omega
      · have := HB2.out.size; simp; omega
      intro v2 w2 hown3 hgrow2 hnil2
      have HB3 : Hid (Below w.heap.size w w2) := (HB2.out.alloc HB2.out.size _).grown hgrow2 (by have := HB2.out.size; simp; omega) (fun q hq => (hown2.lt q hq).1)
      have ho3 : w2.ownsRow w.heap.size 5 1 v2 (k + 1) (cellsU8 (marks (k + 1))) := by
        rw [marks_succ, cellsU8_append]
        simpa [cellsU8] using hown3
      have HO3 : Hid (w2.ownsRow w.heap.size 5 1 v2 (k + 1) (cellsU8 (marks (k + 1)))) := ho3
      clear ho3 hown3 hgrow2 hnil2 hown2 HB2
      go_wp2
      go_roundw
      case rel => exact ⟨k + 1, by omega, by go_num, HO3, HB3⟩
      case measure => simp [intOf]; omega
    · obtain rfl : k = 70 := by omega
      obtain ⟨hlen, hcase⟩ := hown2
      rcases hcase with ⟨_, hc⟩ | ⟨g, c, cur, rfl, hg1, hg2, hg3, hg4, hg5, hg6⟩
      · omega
      have HO : Hid (wr.ownsRow w.heap.size 5 1 (.slice (some ⟨g, 0, none⟩) 70 c) 70 (cellsU8 (marks 70))) := ⟨hlen, .inr ⟨g, c, cur, rfl, hg1, hg2, hg3, hg4, hg5, hg6⟩⟩
      clear hlen hg1 hg2 hg5 hg6 hlt
      unfold maxLen at hg4
      go_wp2
      go_ret
      exact ⟨g, c, rfl, HO, HB2⟩
end Go.Proofs.YtgmfiljjogdccaaDoor
namespace Go.Proofs.YtgmfiljjogdccaaDoor
open Go.RowKit
set_option linter.unusedVariables false
theorem zsize85 : Tryd.zeroCells85.size = 4611 := by kernel_rfl
theorem zb85 : Tryd.prog.built 85 [] = some Tryd.zeroCells85 := by kernel_rfl
theorem zhead85 : Tryd.zeroCells85.toList.take 2 = [.slice none 0 0, .slice none 0 0] := by kernel_rfl
theorem zlast85 : Tryd.zeroCells85.toList.drop 4610 = [.bool false] := by kernel_rfl
theorem dbl_tms : ∀ a : Fin 256, tmsN 8 0 a.1 2 = dblN a.1 := by decide +kernel
/-- The rows of products. -/
def byF : Nat → Nat → Nat
  | 1, j => j
  | 2, j => x2 j
  | 3, j => x3 j
  | 9, j => x9 j
  | 11, j => x11 j
  | 13, j => x13 j
  | _, j => x14 j
def byR (r : Nat) : Prop := r = 1 ∨ r = 2 ∨ r = 3 ∨ r = 9 ∨ r = 11 ∨ r = 13 ∨ r = 14
/-- The reference's key while it is made at g: tables, and the products of the first m bytes. -/
structure RkT (w : World) (g m : Nat) (v : World) : Prop where
  old : Below g w v
  room : v.there g 0 4611
  lt : g < v.heap.size
  s : ∀ j, j < 256 → v.cell? ⟨g, 2 + j, none⟩ = some (.int .u8 (SB j : Nat))
  u : ∀ j, j < 256 → v.cell? ⟨g, 258 + j, none⟩ = some (.int .u8 (UB j : Nat))
  by' : ∀ r, byR r → ∀ j, j < m → v.cell? ⟨g, 514 + 256 * r + j, none⟩ = some (.int .u8 (byF r j : Nat))
  wiped : v.cell? ⟨g, 4610, none⟩ = some (.bool false)
theorem RkT.keep {w v v' : World} {g m : Nat} (h : RkT w g m v) (hb : v'.heap[g]? = v.heap[g]?) (ho : Below g w v') (hs : v.heap.size ≤ v'.heap.size) : RkT w g m v' := by
  have hc : ∀ j, v'.cell? ⟨g, j, none⟩ = v.cell? ⟨g, j, none⟩ := fun j => World.cell?_of_block (a := ⟨g, j, none⟩) hb
  have hf : ∀ j, v'.frozen? ⟨g, j, none⟩ = v.frozen? ⟨g, j, none⟩ := fun j => World.frozen?_of_block (a := ⟨g, j, none⟩) hb
  exact ⟨ho, fun j hj => by rw [hc, hf]; exact h.room j hj, Nat.lt_of_lt_of_le h.lt hs, fun j hj => (hc _).trans (h.s j hj), fun j hj => (hc _).trans (h.u j hj), fun r hr j hj => (hc _).trans (h.by' r hr j hj), (hc _).trans h.wiped⟩
theorem RkT.set {w v : World} {g m : Nat} (h : RkT w g m v) (j : Nat) (x : Value) (hj : j < 2) : RkT w g m (v.setCell ⟨g, j, none⟩ x) :=
  ⟨h.old.setCell (Nat.le_refl _) _, World.there_setCells h.room _ _ [_], by have := h.lt; simpa [World.setCell] using this, fun i hi => (cell_other _ _ _ _ _ (by omega)).trans (h.s i hi), fun i hi => (cell_other _ _ _ _ _ (by omega)).trans (h.u i hi), fun r hr i hi => (cell_other _ _ _ _ _ (by omega)).trans (h.by' r hr i hi), (cell_other _ _ _ _ _ (by omega)).trans h.wiped⟩
/-- Seven cells more. -/
def bySet (v : World) (g k : Nat) : World :=
  ((((((v.setCell ⟨g, 770 + k, none⟩ (.int .u8 (k : Nat))).setCell ⟨g, 1026 + k, none⟩ (.int .u8 (x2 k : Nat))).setCell ⟨g, 1282 + k, none⟩ (.int .u8 (x3 k : Nat))).setCell ⟨g, 2818 + k, none⟩ (.int .u8 (x9 k : Nat))).setCell ⟨g, 3330 + k, none⟩ (.int .u8 (x11 k : Nat))).setCell ⟨g, 3842 + k, none⟩ (.int .u8 (x13 k : Nat))).setCell ⟨g, 4098 + k, none⟩ (.int .u8 (x14 k : Nat))
theorem bySet_out (v : World) (g k j : Nat) (h : j ≠ 770 + k ∧ j ≠ 1026 + k ∧ j ≠ 1282 + k ∧ j ≠ 2818 + k ∧ j ≠ 3330 + k ∧ j ≠ 3842 + k ∧ j ≠ 4098 + k) : (bySet v g k).cell? ⟨g, j, none⟩ = v.cell? ⟨g, j, none⟩ := by
  unfold bySet
  rw [cell_other _ _ _ _ _ (by omega), cell_other _ _ _ _ _ (by omega), cell_other _ _ _ _ _ (by omega), cell_other _ _ _ _ _ (by omega), cell_other _ _ _ _ _ (by omega), cell_other _ _ _ _ _ (by omega), cell_other _ _ _ _ _ (by omega)]
theorem bySet_there {v : World} {g o n : Nat} (k : Nat) (h : v.there g o n) : (bySet v g k).there g o n :=
  World.there_setCells (World.there_setCells (World.there_setCells (World.there_setCells (World.there_setCells (World.there_setCells (World.there_setCells h _ _ [_]) _ _ [_]) _ _ [_]) _ _ [_]) _ _ [_]) _ _ [_]) _ _ [_]
theorem bySet_below {w v : World} {g : Nat} (k : Nat) (h : Below g w v) : Below g w (bySet v g k) :=
  ((((((h.setCell (Nat.le_refl _) _).setCell (Nat.le_refl _) _).setCell (Nat.le_refl _) _).setCell (Nat.le_refl _) _).setCell (Nat.le_refl _) _).setCell (Nat.le_refl _) _).setCell (Nat.le_refl _) _
theorem bySet_size (v : World) (g k : Nat) : (bySet v g k).heap.size = v.heap.size := by simp [bySet, World.setCell]
theorem bySet_in {v : World} {g k : Nat} (ht : v.there g 0 4611) (hk : k < 256) (r : Nat) (hr : byR r) : (bySet v g k).cell? ⟨g, 514 + 256 * r + k, none⟩ = some (.int .u8 (byF r k : Nat)) := by
  unfold bySet
  rcases hr with rfl | rfl | rfl | rfl | rfl | rfl | rfl
  · show World.cell? _ ⟨g, 770 + k, none⟩ = _
    rw [cell_other _ _ _ _ _ (by omega), cell_other _ _ _ _ _ (by omega), cell_other _ _ _ _ _ (by omega), cell_other _ _ _ _ _ (by omega), cell_other _ _ _ _ _ (by omega), cell_other _ _ _ _ _ (by omega)]
    exact set_same _ ht (by omega)
  · show World.cell? _ ⟨g, 1026 + k, none⟩ = _
    rw [cell_other _ _ _ _ _ (by omega), cell_other _ _ _ _ _ (by omega), cell_other _ _ _ _ _ (by omega), cell_other _ _ _ _ _ (by omega), cell_other _ _ _ _ _ (by omega)]
    exact set_same _ (World.there_setCells ht _ _ [_]) (by omega)
  · show World.cell? _ ⟨g, 1282 + k, none⟩ = _
    rw [cell_other _ _ _ _ _ (by omega), cell_other _ _ _ _ _ (by omega), cell_other _ _ _ _ _ (by omega), cell_other _ _ _ _ _ (by omega)]
    exact set_same _ (World.there_setCells (World.there_setCells ht _ _ [_]) _ _ [_]) (by omega)
  · show World.cell? _ ⟨g, 2818 + k, none⟩ = _
    rw [cell_other _ _ _ _ _ (by omega), cell_other _ _ _ _ _ (by omega), cell_other _ _ _ _ _ (by omega)]
    exact set_same _ (World.there_setCells (World.there_setCells (World.there_setCells ht _ _ [_]) _ _ [_]) _ _ [_]) (by omega)
  · show World.cell? _ ⟨g, 3330 + k, none⟩ = _
    rw [cell_other _ _ _ _ _ (by omega), cell_other _ _ _ _ _ (by omega)]
    exact set_same _ (World.there_setCells (World.there_setCells (World.there_setCells (World.there_setCells ht _ _ [_]) _ _ [_]) _ _ [_]) _ _ [_]) (by omega)
  · show World.cell? _ ⟨g, 3842 + k, none⟩ = _
    rw [cell_other _ _ _ _ _ (by omega)]
    exact set_same _ (World.there_setCells (World.there_setCells (World.there_setCells (World.there_setCells (World.there_setCells ht _ _ [_]) _ _ [_]) _ _ [_]) _ _ [_]) _ _ [_]) (by omega)
  · show World.cell? _ ⟨g, 4098 + k, none⟩ = _
    exact set_same _ (World.there_setCells (World.there_setCells (World.there_setCells (World.there_setCells (World.there_setCells (World.there_setCells ht _ _ [_]) _ _ [_]) _ _ [_]) _ _ [_]) _ _ [_]) _ _ [_]) (by omega)
theorem RkT.more {w v : World} {g k : Nat} (h : RkT w g k v) (hk : k < 256) : RkT w g (k + 1) (bySet v g k) := by
  refine ⟨bySet_below k h.old, bySet_there k h.room, by rw [bySet_size]; exact h.lt, fun j hj => (bySet_out _ _ _ _ (by omega)).trans (h.s j hj), fun j hj => (bySet_out _ _ _ _ (by omega)).trans (h.u j hj), fun r hr j hj => ?_, (bySet_out _ _ _ _ (by omega)).trans h.wiped⟩
  by_cases hjk : j = k
  · subst hjk; exact bySet_in h.room hk r hr
  · rw [bySet_out _ _ _ _ (by rcases hr with rfl | rfl | rfl | rfl | rfl | rfl | rfl <;> omega)]
    exact h.by' r hr j (by omega)
/-- A list of bytes. -/
def rbL (K : Nat → Nat) (m : Nat) : List Value := (List.range m).map fun j => .int .u8 (rb K j : Nat)
theorem rbL_succ (K : Nat → Nat) (m : Nat) : rbL K (m + 1) = rbL K m ++ [.int .u8 (rb K m : Nat)] := by simp [rbL, List.range_succ]
theorem rbL_len (K : Nat → Nat) (m : Nat) : (rbL K m).length = m := by simp [rbL]
theorem rbL_at (K : Nat → Nat) (m j : Nat) (h : j < m) : (rbL K m)[j]? = some (.int .u8 (rb K j : Nat)) := by simp [rbL, h]
theorem own_set {w : World} {base e sz n g o : Nat} {v x : Value} {xs : List Value} (h : w.ownsRow base e sz v n xs) (hg : g < base) : (w.setCell ⟨g, o, none⟩ x).ownsRow base e sz v n xs :=
  h.kept (row := some g) ⟨rfl, rfl, rfl, by simp [World.setCell], fun k hk hne => World.heap_setCells_other w g o [x] hk (fun q => hne (by rw [q]))⟩ (by
    cases hv : v.ownBlock with
    | none => exact .inl rfl
    | some k => right; intro q; have := (h.lt k hv).1; simp at q; omega)
/-- The reference's key at g, its round keys at gr. -/
structure RefAt (w : World) (g gr nk : Nat) (K : Nat → Nat) : Prop where
  lt : g < w.heap.size
  gt : g < gr
  ltr : gr < w.heap.size
  s : ∀ j, j < 256 → w.cell? ⟨g, 2 + j, none⟩ = some (.int .u8 (SB j : Nat))
  u : ∀ j, j < 256 → w.cell? ⟨g, 258 + j, none⟩ = some (.int .u8 (UB j : Nat))
  by' : ∀ r, byR r → ∀ j, j < 256 → w.cell? ⟨g, 514 + 256 * r + j, none⟩ = some (.int .u8 (byF r j : Nat))
  wiped : w.cell? ⟨g, 4610, none⟩ = some (.bool false)
  bytes : ∃ p c, w.cell? ⟨g, 0, none⟩ = some (.slice p (4 * nk) c)
  round : ∃ c, w.cell? ⟨g, 1, none⟩ = some (.slice (some ⟨gr, 0, none⟩) (16 * (nk + 7)) c)
  cells : ∀ j, j < 16 * (nk + 7) → w.cell? ⟨gr, j, none⟩ = some (.int .u8 (rb K j : Nat))
theorem RefAt.keep {w w' : World} {g gr nk : Nat} {K : Nat → Nat} (h : RefAt w g gr nk K) (h1 : w'.heap[g]? = w.heap[g]?) (h2 : w'.heap[gr]? = w.heap[gr]?) (hs : w.heap.size ≤ w'.heap.size) : RefAt w' g gr nk K := by
  have hc : ∀ j, w'.cell? ⟨g, j, none⟩ = w.cell? ⟨g, j, none⟩ := fun j => World.cell?_of_block (a := ⟨g, j, none⟩) h1
  have hd : ∀ j, w'.cell? ⟨gr, j, none⟩ = w.cell? ⟨gr, j, none⟩ := fun j => World.cell?_of_block (a := ⟨gr, j, none⟩) h2
  obtain ⟨p, c, hp⟩ := h.bytes
  obtain ⟨d, hq⟩ := h.round
  exact ⟨Nat.lt_of_lt_of_le h.lt hs, h.gt, Nat.lt_of_lt_of_le h.ltr hs, fun j hj => (hc _).trans (h.s j hj), fun j hj => (hc _).trans (h.u j hj), fun r hr j hj => (hc _).trans (h.by' r hr j hj), (hc _).trans h.wiped, ⟨p, c, (hc _).trans hp⟩, ⟨d, (hc _).trans hq⟩, fun j hj => (hd _).trans (h.cells j hj)⟩
end Go.Proofs.YtgmfiljjogdccaaDoor
namespace Go.Proofs.YtgmfiljjogdccaaDoor
open Go.RowKit
set_option linter.unusedVariables false
theorem unm_wd (p q r t : Nat) (hp : p < 256) (hq : q < 256) (hr : r < 256) (ht : t < 256) : unmc p q r t =
    wd (((x14 p ^^^ x11 q) ^^^ x13 r) ^^^ x9 t) (((x9 p ^^^ x14 q) ^^^ x11 r) ^^^ x13 t) (((x13 p ^^^ x9 q) ^^^ x14 r) ^^^ x11 t) (((x11 p ^^^ x13 q) ^^^ x9 r) ^^^ x14 t) := by
  unfold unmc UX U8 U16 U24
  rw [wd_xor _ _ _ _ _ _ _ _ (xl9 hp) (xl13 hp) (xl11 hp) (xl14 hq) (xl9 hq) (xl13 hq), wd_xor _ _ _ _ _ _ _ _ (xor_lt8 (xl9 hp) (xl14 hq)) (xor_lt8 (xl13 hp) (xl9 hq)) (xor_lt8 (xl11 hp) (xl13 hq)) (xl11 hr) (xl14 hr) (xl9 hr),
    wd_xor _ _ _ _ _ _ _ _ (xor_lt8 (xor_lt8 (xl9 hp) (xl14 hq)) (xl11 hr)) (xor_lt8 (xor_lt8 (xl13 hp) (xl9 hq)) (xl14 hr)) (xor_lt8 (xor_lt8 (xl11 hp) (xl13 hq)) (xl9 hr)) (xl13 ht) (xl11 ht) (xl14 ht)]
  exact rfl
theorem x2_add4 {a b c d : Nat} (ha : a < 256) (hb : b < 256) (hc : c < 256) (hd : d < 256) : x2 (((a ^^^ b) ^^^ c) ^^^ d) = ((x2 a ^^^ x2 b) ^^^ x2 c) ^^^ x2 d := by
  have h1 : a ^^^ b < 256 := xor_lt8 ha hb
  have h2 : (a ^^^ b) ^^^ c < 256 := xor_lt8 h1 hc
  rw [x2_add h2 hd, x2_add h1 hc, x2_add ha hb]
theorem x3_add4 {a b c d : Nat} (ha : a < 256) (hb : b < 256) (hc : c < 256) (hd : d < 256) : x3 (((a ^^^ b) ^^^ c) ^^^ d) = ((x3 a ^^^ x3 b) ^^^ x3 c) ^^^ x3 d := by
  have h1 : a ^^^ b < 256 := xor_lt8 ha hb
  have h2 : (a ^^^ b) ^^^ c < 256 := xor_lt8 h1 hc
  rw [x3_add h2 hd, x3_add h1 hc, x3_add ha hb]
theorem x9_add4 {a b c d : Nat} (ha : a < 256) (hb : b < 256) (hc : c < 256) (hd : d < 256) : x9 (((a ^^^ b) ^^^ c) ^^^ d) = ((x9 a ^^^ x9 b) ^^^ x9 c) ^^^ x9 d := by
  have h1 : a ^^^ b < 256 := xor_lt8 ha hb
  have h2 : (a ^^^ b) ^^^ c < 256 := xor_lt8 h1 hc
  rw [x9_add h2 hd, x9_add h1 hc, x9_add ha hb]
theorem x11_add4 {a b c d : Nat} (ha : a < 256) (hb : b < 256) (hc : c < 256) (hd : d < 256) : x11 (((a ^^^ b) ^^^ c) ^^^ d) = ((x11 a ^^^ x11 b) ^^^ x11 c) ^^^ x11 d := by
  have h1 : a ^^^ b < 256 := xor_lt8 ha hb
  have h2 : (a ^^^ b) ^^^ c < 256 := xor_lt8 h1 hc
  rw [x11_add h2 hd, x11_add h1 hc, x11_add ha hb]
theorem x13_add4 {a b c d : Nat} (ha : a < 256) (hb : b < 256) (hc : c < 256) (hd : d < 256) : x13 (((a ^^^ b) ^^^ c) ^^^ d) = ((x13 a ^^^ x13 b) ^^^ x13 c) ^^^ x13 d := by
  have h1 : a ^^^ b < 256 := xor_lt8 ha hb
  have h2 : (a ^^^ b) ^^^ c < 256 := xor_lt8 h1 hc
  rw [x13_add h2 hd, x13_add h1 hc, x13_add ha hb]
theorem x14_add4 {a b c d : Nat} (ha : a < 256) (hb : b < 256) (hc : c < 256) (hd : d < 256) : x14 (((a ^^^ b) ^^^ c) ^^^ d) = ((x14 a ^^^ x14 b) ^^^ x14 c) ^^^ x14 d := by
  have h1 : a ^^^ b < 256 := xor_lt8 ha hb
  have h2 : (a ^^^ b) ^^^ c < 256 := xor_lt8 h1 hc
  rw [x14_add h2 hd, x14_add h1 hc, x14_add ha hb]
theorem unm_mc0 (p q r t : Nat) (hp : p < 256) (hq : q < 256) (hr : r < 256) (ht : t < 256) : ((((x14 ((((x2 p) ^^^ (x3 q)) ^^^ r) ^^^ t)) ^^^ (x11 (((p ^^^ (x2 q)) ^^^ (x3 r)) ^^^ t))) ^^^ (x13 (((p ^^^ q) ^^^ (x2 r)) ^^^ (x3 t)))) ^^^ (x9 ((((x3 p) ^^^ q) ^^^ r) ^^^ (x2 t)))) = p := by
  rw [x14_add4 (xl2 hp) (xl3 hq) hr ht, x11_add4 hp (xl2 hq) (xl3 hr) ht, x13_add4 hp hq (xl2 hr) (xl3 ht), x9_add4 (xl3 hp) hq hr (xl2 ht)]
  have e : (((((((x14 (x2 p)) ^^^ (x14 (x3 q))) ^^^ (x14 r)) ^^^ (x14 t)) ^^^ ((((x11 p) ^^^ (x11 (x2 q))) ^^^ (x11 (x3 r))) ^^^ (x11 t))) ^^^ ((((x13 p) ^^^ (x13 q)) ^^^ (x13 (x2 r))) ^^^ (x13 (x3 t)))) ^^^ ((((x9 (x3 p)) ^^^ (x9 q)) ^^^ (x9 r)) ^^^ (x9 (x2 t)))) = (((((((x14 (x2 p)) ^^^ (x11 p)) ^^^ (x13 p)) ^^^ (x9 (x3 p))) ^^^ ((((x14 (x3 q)) ^^^ (x11 (x2 q))) ^^^ (x13 q)) ^^^ (x9 q))) ^^^ ((((x14 r) ^^^ (x11 (x3 r))) ^^^ (x13 (x2 r))) ^^^ (x9 r))) ^^^ ((((x14 t) ^^^ (x11 t)) ^^^ (x13 (x3 t))) ^^^ (x9 (x2 t)))) := by ac_rfl
  rw [e]
  have h0 : ((((x14 (x2 p)) ^^^ (x11 p)) ^^^ (x13 p)) ^^^ (x9 (x3 p))) = p := (by decide +kernel : ∀ p : Fin 256, ((((x14 (x2 p.1)) ^^^ (x11 p.1)) ^^^ (x13 p.1)) ^^^ (x9 (x3 p.1))) = p.1) ⟨p, hp⟩
  have h1 : ((((x14 (x3 q)) ^^^ (x11 (x2 q))) ^^^ (x13 q)) ^^^ (x9 q)) = 0 := (by decide +kernel : ∀ q : Fin 256, ((((x14 (x3 q.1)) ^^^ (x11 (x2 q.1))) ^^^ (x13 q.1)) ^^^ (x9 q.1)) = 0) ⟨q, hq⟩
  have h2 : ((((x14 r) ^^^ (x11 (x3 r))) ^^^ (x13 (x2 r))) ^^^ (x9 r)) = 0 := (by decide +kernel : ∀ r : Fin 256, ((((x14 r.1) ^^^ (x11 (x3 r.1))) ^^^ (x13 (x2 r.1))) ^^^ (x9 r.1)) = 0) ⟨r, hr⟩
  have h3 : ((((x14 t) ^^^ (x11 t)) ^^^ (x13 (x3 t))) ^^^ (x9 (x2 t))) = 0 := (by decide +kernel : ∀ t : Fin 256, ((((x14 t.1) ^^^ (x11 t.1)) ^^^ (x13 (x3 t.1))) ^^^ (x9 (x2 t.1))) = 0) ⟨t, ht⟩
  rw [h0, h1, h2, h3]
  simp
theorem unm_mc1 (p q r t : Nat) (hp : p < 256) (hq : q < 256) (hr : r < 256) (ht : t < 256) : ((((x9 ((((x2 p) ^^^ (x3 q)) ^^^ r) ^^^ t)) ^^^ (x14 (((p ^^^ (x2 q)) ^^^ (x3 r)) ^^^ t))) ^^^ (x11 (((p ^^^ q) ^^^ (x2 r)) ^^^ (x3 t)))) ^^^ (x13 ((((x3 p) ^^^ q) ^^^ r) ^^^ (x2 t)))) = q := by
  rw [x9_add4 (xl2 hp) (xl3 hq) hr ht, x14_add4 hp (xl2 hq) (xl3 hr) ht, x11_add4 hp hq (xl2 hr) (xl3 ht), x13_add4 (xl3 hp) hq hr (xl2 ht)]
  have e : (((((((x9 (x2 p)) ^^^ (x9 (x3 q))) ^^^ (x9 r)) ^^^ (x9 t)) ^^^ ((((x14 p) ^^^ (x14 (x2 q))) ^^^ (x14 (x3 r))) ^^^ (x14 t))) ^^^ ((((x11 p) ^^^ (x11 q)) ^^^ (x11 (x2 r))) ^^^ (x11 (x3 t)))) ^^^ ((((x13 (x3 p)) ^^^ (x13 q)) ^^^ (x13 r)) ^^^ (x13 (x2 t)))) = (((((((x9 (x2 p)) ^^^ (x14 p)) ^^^ (x11 p)) ^^^ (x13 (x3 p))) ^^^ ((((x9 (x3 q)) ^^^ (x14 (x2 q))) ^^^ (x11 q)) ^^^ (x13 q))) ^^^ ((((x9 r) ^^^ (x14 (x3 r))) ^^^ (x11 (x2 r))) ^^^ (x13 r))) ^^^ ((((x9 t) ^^^ (x14 t)) ^^^ (x11 (x3 t))) ^^^ (x13 (x2 t)))) := by ac_rfl
  rw [e]
  have h0 : ((((x9 (x2 p)) ^^^ (x14 p)) ^^^ (x11 p)) ^^^ (x13 (x3 p))) = 0 := (by decide +kernel : ∀ p : Fin 256, ((((x9 (x2 p.1)) ^^^ (x14 p.1)) ^^^ (x11 p.1)) ^^^ (x13 (x3 p.1))) = 0) ⟨p, hp⟩
  have h1 : ((((x9 (x3 q)) ^^^ (x14 (x2 q))) ^^^ (x11 q)) ^^^ (x13 q)) = q := (by decide +kernel : ∀ q : Fin 256, ((((x9 (x3 q.1)) ^^^ (x14 (x2 q.1))) ^^^ (x11 q.1)) ^^^ (x13 q.1)) = q.1) ⟨q, hq⟩
  have h2 : ((((x9 r) ^^^ (x14 (x3 r))) ^^^ (x11 (x2 r))) ^^^ (x13 r)) = 0 := (by decide +kernel : ∀ r : Fin 256, ((((x9 r.1) ^^^ (x14 (x3 r.1))) ^^^ (x11 (x2 r.1))) ^^^ (x13 r.1)) = 0) ⟨r, hr⟩
  have h3 : ((((x9 t) ^^^ (x14 t)) ^^^ (x11 (x3 t))) ^^^ (x13 (x2 t))) = 0 := (by decide +kernel : ∀ t : Fin 256, ((((x9 t.1) ^^^ (x14 t.1)) ^^^ (x11 (x3 t.1))) ^^^ (x13 (x2 t.1))) = 0) ⟨t, ht⟩
  rw [h0, h1, h2, h3]
  simp
theorem unm_mc2 (p q r t : Nat) (hp : p < 256) (hq : q < 256) (hr : r < 256) (ht : t < 256) : ((((x13 ((((x2 p) ^^^ (x3 q)) ^^^ r) ^^^ t)) ^^^ (x9 (((p ^^^ (x2 q)) ^^^ (x3 r)) ^^^ t))) ^^^ (x14 (((p ^^^ q) ^^^ (x2 r)) ^^^ (x3 t)))) ^^^ (x11 ((((x3 p) ^^^ q) ^^^ r) ^^^ (x2 t)))) = r := by
  rw [x13_add4 (xl2 hp) (xl3 hq) hr ht, x9_add4 hp (xl2 hq) (xl3 hr) ht, x14_add4 hp hq (xl2 hr) (xl3 ht), x11_add4 (xl3 hp) hq hr (xl2 ht)]
  have e : (((((((x13 (x2 p)) ^^^ (x13 (x3 q))) ^^^ (x13 r)) ^^^ (x13 t)) ^^^ ((((x9 p) ^^^ (x9 (x2 q))) ^^^ (x9 (x3 r))) ^^^ (x9 t))) ^^^ ((((x14 p) ^^^ (x14 q)) ^^^ (x14 (x2 r))) ^^^ (x14 (x3 t)))) ^^^ ((((x11 (x3 p)) ^^^ (x11 q)) ^^^ (x11 r)) ^^^ (x11 (x2 t)))) = (((((((x13 (x2 p)) ^^^ (x9 p)) ^^^ (x14 p)) ^^^ (x11 (x3 p))) ^^^ ((((x13 (x3 q)) ^^^ (x9 (x2 q))) ^^^ (x14 q)) ^^^ (x11 q))) ^^^ ((((x13 r) ^^^ (x9 (x3 r))) ^^^ (x14 (x2 r))) ^^^ (x11 r))) ^^^ ((((x13 t) ^^^ (x9 t)) ^^^ (x14 (x3 t))) ^^^ (x11 (x2 t)))) := by ac_rfl
  rw [e]
  have h0 : ((((x13 (x2 p)) ^^^ (x9 p)) ^^^ (x14 p)) ^^^ (x11 (x3 p))) = 0 := (by decide +kernel : ∀ p : Fin 256, ((((x13 (x2 p.1)) ^^^ (x9 p.1)) ^^^ (x14 p.1)) ^^^ (x11 (x3 p.1))) = 0) ⟨p, hp⟩
  have h1 : ((((x13 (x3 q)) ^^^ (x9 (x2 q))) ^^^ (x14 q)) ^^^ (x11 q)) = 0 := (by decide +kernel : ∀ q : Fin 256, ((((x13 (x3 q.1)) ^^^ (x9 (x2 q.1))) ^^^ (x14 q.1)) ^^^ (x11 q.1)) = 0) ⟨q, hq⟩
  have h2 : ((((x13 r) ^^^ (x9 (x3 r))) ^^^ (x14 (x2 r))) ^^^ (x11 r)) = r := (by decide +kernel : ∀ r : Fin 256, ((((x13 r.1) ^^^ (x9 (x3 r.1))) ^^^ (x14 (x2 r.1))) ^^^ (x11 r.1)) = r.1) ⟨r, hr⟩
  have h3 : ((((x13 t) ^^^ (x9 t)) ^^^ (x14 (x3 t))) ^^^ (x11 (x2 t))) = 0 := (by decide +kernel : ∀ t : Fin 256, ((((x13 t.1) ^^^ (x9 t.1)) ^^^ (x14 (x3 t.1))) ^^^ (x11 (x2 t.1))) = 0) ⟨t, ht⟩
  rw [h0, h1, h2, h3]
  simp
theorem unm_mc3 (p q r t : Nat) (hp : p < 256) (hq : q < 256) (hr : r < 256) (ht : t < 256) : ((((x11 ((((x2 p) ^^^ (x3 q)) ^^^ r) ^^^ t)) ^^^ (x13 (((p ^^^ (x2 q)) ^^^ (x3 r)) ^^^ t))) ^^^ (x9 (((p ^^^ q) ^^^ (x2 r)) ^^^ (x3 t)))) ^^^ (x14 ((((x3 p) ^^^ q) ^^^ r) ^^^ (x2 t)))) = t := by
  rw [x11_add4 (xl2 hp) (xl3 hq) hr ht, x13_add4 hp (xl2 hq) (xl3 hr) ht, x9_add4 hp hq (xl2 hr) (xl3 ht), x14_add4 (xl3 hp) hq hr (xl2 ht)]
  have e : (((((((x11 (x2 p)) ^^^ (x11 (x3 q))) ^^^ (x11 r)) ^^^ (x11 t)) ^^^ ((((x13 p) ^^^ (x13 (x2 q))) ^^^ (x13 (x3 r))) ^^^ (x13 t))) ^^^ ((((x9 p) ^^^ (x9 q)) ^^^ (x9 (x2 r))) ^^^ (x9 (x3 t)))) ^^^ ((((x14 (x3 p)) ^^^ (x14 q)) ^^^ (x14 r)) ^^^ (x14 (x2 t)))) = (((((((x11 (x2 p)) ^^^ (x13 p)) ^^^ (x9 p)) ^^^ (x14 (x3 p))) ^^^ ((((x11 (x3 q)) ^^^ (x13 (x2 q))) ^^^ (x9 q)) ^^^ (x14 q))) ^^^ ((((x11 r) ^^^ (x13 (x3 r))) ^^^ (x9 (x2 r))) ^^^ (x14 r))) ^^^ ((((x11 t) ^^^ (x13 t)) ^^^ (x9 (x3 t))) ^^^ (x14 (x2 t)))) := by ac_rfl
  rw [e]
  have h0 : ((((x11 (x2 p)) ^^^ (x13 p)) ^^^ (x9 p)) ^^^ (x14 (x3 p))) = 0 := (by decide +kernel : ∀ p : Fin 256, ((((x11 (x2 p.1)) ^^^ (x13 p.1)) ^^^ (x9 p.1)) ^^^ (x14 (x3 p.1))) = 0) ⟨p, hp⟩
  have h1 : ((((x11 (x3 q)) ^^^ (x13 (x2 q))) ^^^ (x9 q)) ^^^ (x14 q)) = 0 := (by decide +kernel : ∀ q : Fin 256, ((((x11 (x3 q.1)) ^^^ (x13 (x2 q.1))) ^^^ (x9 q.1)) ^^^ (x14 q.1)) = 0) ⟨q, hq⟩
  have h2 : ((((x11 r) ^^^ (x13 (x3 r))) ^^^ (x9 (x2 r))) ^^^ (x14 r)) = 0 := (by decide +kernel : ∀ r : Fin 256, ((((x11 r.1) ^^^ (x13 (x3 r.1))) ^^^ (x9 (x2 r.1))) ^^^ (x14 r.1)) = 0) ⟨r, hr⟩
  have h3 : ((((x11 t) ^^^ (x13 t)) ^^^ (x9 (x3 t))) ^^^ (x14 (x2 t))) = t := (by decide +kernel : ∀ t : Fin 256, ((((x11 t.1) ^^^ (x13 t.1)) ^^^ (x9 (x3 t.1))) ^^^ (x14 (x2 t.1))) = t.1) ⟨t, ht⟩
  rw [h0, h1, h2, h3]
  simp
theorem mc_unm0 (p q r t : Nat) (hp : p < 256) (hq : q < 256) (hr : r < 256) (ht : t < 256) : ((((x2 ((((x14 p) ^^^ (x11 q)) ^^^ (x13 r)) ^^^ (x9 t))) ^^^ (x3 ((((x9 p) ^^^ (x14 q)) ^^^ (x11 r)) ^^^ (x13 t)))) ^^^ ((((x13 p) ^^^ (x9 q)) ^^^ (x14 r)) ^^^ (x11 t))) ^^^ ((((x11 p) ^^^ (x13 q)) ^^^ (x9 r)) ^^^ (x14 t))) = p := by
  rw [x2_add4 (xl14 hp) (xl11 hq) (xl13 hr) (xl9 ht), x3_add4 (xl9 hp) (xl14 hq) (xl11 hr) (xl13 ht)]
  have e : (((((((x2 (x14 p)) ^^^ (x2 (x11 q))) ^^^ (x2 (x13 r))) ^^^ (x2 (x9 t))) ^^^ ((((x3 (x9 p)) ^^^ (x3 (x14 q))) ^^^ (x3 (x11 r))) ^^^ (x3 (x13 t)))) ^^^ ((((x13 p) ^^^ (x9 q)) ^^^ (x14 r)) ^^^ (x11 t))) ^^^ ((((x11 p) ^^^ (x13 q)) ^^^ (x9 r)) ^^^ (x14 t))) = (((((((x2 (x14 p)) ^^^ (x3 (x9 p))) ^^^ (x13 p)) ^^^ (x11 p)) ^^^ ((((x2 (x11 q)) ^^^ (x3 (x14 q))) ^^^ (x9 q)) ^^^ (x13 q))) ^^^ ((((x2 (x13 r)) ^^^ (x3 (x11 r))) ^^^ (x14 r)) ^^^ (x9 r))) ^^^ ((((x2 (x9 t)) ^^^ (x3 (x13 t))) ^^^ (x11 t)) ^^^ (x14 t))) := by ac_rfl
  rw [e]
  have h0 : ((((x2 (x14 p)) ^^^ (x3 (x9 p))) ^^^ (x13 p)) ^^^ (x11 p)) = p := (by decide +kernel : ∀ p : Fin 256, ((((x2 (x14 p.1)) ^^^ (x3 (x9 p.1))) ^^^ (x13 p.1)) ^^^ (x11 p.1)) = p.1) ⟨p, hp⟩
  have h1 : ((((x2 (x11 q)) ^^^ (x3 (x14 q))) ^^^ (x9 q)) ^^^ (x13 q)) = 0 := (by decide +kernel : ∀ q : Fin 256, ((((x2 (x11 q.1)) ^^^ (x3 (x14 q.1))) ^^^ (x9 q.1)) ^^^ (x13 q.1)) = 0) ⟨q, hq⟩
  have h2 : ((((x2 (x13 r)) ^^^ (x3 (x11 r))) ^^^ (x14 r)) ^^^ (x9 r)) = 0 := (by decide +kernel : ∀ r : Fin 256, ((((x2 (x13 r.1)) ^^^ (x3 (x11 r.1))) ^^^ (x14 r.1)) ^^^ (x9 r.1)) = 0) ⟨r, hr⟩
  have h3 : ((((x2 (x9 t)) ^^^ (x3 (x13 t))) ^^^ (x11 t)) ^^^ (x14 t)) = 0 := (by decide +kernel : ∀ t : Fin 256, ((((x2 (x9 t.1)) ^^^ (x3 (x13 t.1))) ^^^ (x11 t.1)) ^^^ (x14 t.1)) = 0) ⟨t, ht⟩
  rw [h0, h1, h2, h3]
  simp
theorem mc_unm1 (p q r t : Nat) (hp : p < 256) (hq : q < 256) (hr : r < 256) (ht : t < 256) : (((((((x14 p) ^^^ (x11 q)) ^^^ (x13 r)) ^^^ (x9 t)) ^^^ (x2 ((((x9 p) ^^^ (x14 q)) ^^^ (x11 r)) ^^^ (x13 t)))) ^^^ (x3 ((((x13 p) ^^^ (x9 q)) ^^^ (x14 r)) ^^^ (x11 t)))) ^^^ ((((x11 p) ^^^ (x13 q)) ^^^ (x9 r)) ^^^ (x14 t))) = q := by
  rw [x2_add4 (xl9 hp) (xl14 hq) (xl11 hr) (xl13 ht), x3_add4 (xl13 hp) (xl9 hq) (xl14 hr) (xl11 ht)]
  have e : (((((((x14 p) ^^^ (x11 q)) ^^^ (x13 r)) ^^^ (x9 t)) ^^^ ((((x2 (x9 p)) ^^^ (x2 (x14 q))) ^^^ (x2 (x11 r))) ^^^ (x2 (x13 t)))) ^^^ ((((x3 (x13 p)) ^^^ (x3 (x9 q))) ^^^ (x3 (x14 r))) ^^^ (x3 (x11 t)))) ^^^ ((((x11 p) ^^^ (x13 q)) ^^^ (x9 r)) ^^^ (x14 t))) = (((((((x14 p) ^^^ (x2 (x9 p))) ^^^ (x3 (x13 p))) ^^^ (x11 p)) ^^^ ((((x11 q) ^^^ (x2 (x14 q))) ^^^ (x3 (x9 q))) ^^^ (x13 q))) ^^^ ((((x13 r) ^^^ (x2 (x11 r))) ^^^ (x3 (x14 r))) ^^^ (x9 r))) ^^^ ((((x9 t) ^^^ (x2 (x13 t))) ^^^ (x3 (x11 t))) ^^^ (x14 t))) := by ac_rfl
  rw [e]
  have h0 : ((((x14 p) ^^^ (x2 (x9 p))) ^^^ (x3 (x13 p))) ^^^ (x11 p)) = 0 := (by decide +kernel : ∀ p : Fin 256, ((((x14 p.1) ^^^ (x2 (x9 p.1))) ^^^ (x3 (x13 p.1))) ^^^ (x11 p.1)) = 0) ⟨p, hp⟩
  have h1 : ((((x11 q) ^^^ (x2 (x14 q))) ^^^ (x3 (x9 q))) ^^^ (x13 q)) = q := (by decide +kernel : ∀ q : Fin 256, ((((x11 q.1) ^^^ (x2 (x14 q.1))) ^^^ (x3 (x9 q.1))) ^^^ (x13 q.1)) = q.1) ⟨q, hq⟩
  have h2 : ((((x13 r) ^^^ (x2 (x11 r))) ^^^ (x3 (x14 r))) ^^^ (x9 r)) = 0 := (by decide +kernel : ∀ r : Fin 256, ((((x13 r.1) ^^^ (x2 (x11 r.1))) ^^^ (x3 (x14 r.1))) ^^^ (x9 r.1)) = 0) ⟨r, hr⟩
  have h3 : ((((x9 t) ^^^ (x2 (x13 t))) ^^^ (x3 (x11 t))) ^^^ (x14 t)) = 0 := (by decide +kernel : ∀ t : Fin 256, ((((x9 t.1) ^^^ (x2 (x13 t.1))) ^^^ (x3 (x11 t.1))) ^^^ (x14 t.1)) = 0) ⟨t, ht⟩
  rw [h0, h1, h2, h3]
  simp
theorem mc_unm2 (p q r t : Nat) (hp : p < 256) (hq : q < 256) (hr : r < 256) (ht : t < 256) : (((((((x14 p) ^^^ (x11 q)) ^^^ (x13 r)) ^^^ (x9 t)) ^^^ ((((x9 p) ^^^ (x14 q)) ^^^ (x11 r)) ^^^ (x13 t))) ^^^ (x2 ((((x13 p) ^^^ (x9 q)) ^^^ (x14 r)) ^^^ (x11 t)))) ^^^ (x3 ((((x11 p) ^^^ (x13 q)) ^^^ (x9 r)) ^^^ (x14 t)))) = r := by
  rw [x2_add4 (xl13 hp) (xl9 hq) (xl14 hr) (xl11 ht), x3_add4 (xl11 hp) (xl13 hq) (xl9 hr) (xl14 ht)]
  have e : (((((((x14 p) ^^^ (x11 q)) ^^^ (x13 r)) ^^^ (x9 t)) ^^^ ((((x9 p) ^^^ (x14 q)) ^^^ (x11 r)) ^^^ (x13 t))) ^^^ ((((x2 (x13 p)) ^^^ (x2 (x9 q))) ^^^ (x2 (x14 r))) ^^^ (x2 (x11 t)))) ^^^ ((((x3 (x11 p)) ^^^ (x3 (x13 q))) ^^^ (x3 (x9 r))) ^^^ (x3 (x14 t)))) = (((((((x14 p) ^^^ (x9 p)) ^^^ (x2 (x13 p))) ^^^ (x3 (x11 p))) ^^^ ((((x11 q) ^^^ (x14 q)) ^^^ (x2 (x9 q))) ^^^ (x3 (x13 q)))) ^^^ ((((x13 r) ^^^ (x11 r)) ^^^ (x2 (x14 r))) ^^^ (x3 (x9 r)))) ^^^ ((((x9 t) ^^^ (x13 t)) ^^^ (x2 (x11 t))) ^^^ (x3 (x14 t)))) := by ac_rfl
  rw [e]
  have h0 : ((((x14 p) ^^^ (x9 p)) ^^^ (x2 (x13 p))) ^^^ (x3 (x11 p))) = 0 := (by decide +kernel : ∀ p : Fin 256, ((((x14 p.1) ^^^ (x9 p.1)) ^^^ (x2 (x13 p.1))) ^^^ (x3 (x11 p.1))) = 0) ⟨p, hp⟩
  have h1 : ((((x11 q) ^^^ (x14 q)) ^^^ (x2 (x9 q))) ^^^ (x3 (x13 q))) = 0 := (by decide +kernel : ∀ q : Fin 256, ((((x11 q.1) ^^^ (x14 q.1)) ^^^ (x2 (x9 q.1))) ^^^ (x3 (x13 q.1))) = 0) ⟨q, hq⟩
  have h2 : ((((x13 r) ^^^ (x11 r)) ^^^ (x2 (x14 r))) ^^^ (x3 (x9 r))) = r := (by decide +kernel : ∀ r : Fin 256, ((((x13 r.1) ^^^ (x11 r.1)) ^^^ (x2 (x14 r.1))) ^^^ (x3 (x9 r.1))) = r.1) ⟨r, hr⟩
  have h3 : ((((x9 t) ^^^ (x13 t)) ^^^ (x2 (x11 t))) ^^^ (x3 (x14 t))) = 0 := (by decide +kernel : ∀ t : Fin 256, ((((x9 t.1) ^^^ (x13 t.1)) ^^^ (x2 (x11 t.1))) ^^^ (x3 (x14 t.1))) = 0) ⟨t, ht⟩
  rw [h0, h1, h2, h3]
  simp
theorem mc_unm3 (p q r t : Nat) (hp : p < 256) (hq : q < 256) (hr : r < 256) (ht : t < 256) : ((((x3 ((((x14 p) ^^^ (x11 q)) ^^^ (x13 r)) ^^^ (x9 t))) ^^^ ((((x9 p) ^^^ (x14 q)) ^^^ (x11 r)) ^^^ (x13 t))) ^^^ ((((x13 p) ^^^ (x9 q)) ^^^ (x14 r)) ^^^ (x11 t))) ^^^ (x2 ((((x11 p) ^^^ (x13 q)) ^^^ (x9 r)) ^^^ (x14 t)))) = t := by
  rw [x3_add4 (xl14 hp) (xl11 hq) (xl13 hr) (xl9 ht), x2_add4 (xl11 hp) (xl13 hq) (xl9 hr) (xl14 ht)]
  have e : (((((((x3 (x14 p)) ^^^ (x3 (x11 q))) ^^^ (x3 (x13 r))) ^^^ (x3 (x9 t))) ^^^ ((((x9 p) ^^^ (x14 q)) ^^^ (x11 r)) ^^^ (x13 t))) ^^^ ((((x13 p) ^^^ (x9 q)) ^^^ (x14 r)) ^^^ (x11 t))) ^^^ ((((x2 (x11 p)) ^^^ (x2 (x13 q))) ^^^ (x2 (x9 r))) ^^^ (x2 (x14 t)))) = (((((((x3 (x14 p)) ^^^ (x9 p)) ^^^ (x13 p)) ^^^ (x2 (x11 p))) ^^^ ((((x3 (x11 q)) ^^^ (x14 q)) ^^^ (x9 q)) ^^^ (x2 (x13 q)))) ^^^ ((((x3 (x13 r)) ^^^ (x11 r)) ^^^ (x14 r)) ^^^ (x2 (x9 r)))) ^^^ ((((x3 (x9 t)) ^^^ (x13 t)) ^^^ (x11 t)) ^^^ (x2 (x14 t)))) := by ac_rfl
  rw [e]
  have h0 : ((((x3 (x14 p)) ^^^ (x9 p)) ^^^ (x13 p)) ^^^ (x2 (x11 p))) = 0 := (by decide +kernel : ∀ p : Fin 256, ((((x3 (x14 p.1)) ^^^ (x9 p.1)) ^^^ (x13 p.1)) ^^^ (x2 (x11 p.1))) = 0) ⟨p, hp⟩
  have h1 : ((((x3 (x11 q)) ^^^ (x14 q)) ^^^ (x9 q)) ^^^ (x2 (x13 q))) = 0 := (by decide +kernel : ∀ q : Fin 256, ((((x3 (x11 q.1)) ^^^ (x14 q.1)) ^^^ (x9 q.1)) ^^^ (x2 (x13 q.1))) = 0) ⟨q, hq⟩
  have h2 : ((((x3 (x13 r)) ^^^ (x11 r)) ^^^ (x14 r)) ^^^ (x2 (x9 r))) = 0 := (by decide +kernel : ∀ r : Fin 256, ((((x3 (x13 r.1)) ^^^ (x11 r.1)) ^^^ (x14 r.1)) ^^^ (x2 (x9 r.1))) = 0) ⟨r, hr⟩
  have h3 : ((((x3 (x9 t)) ^^^ (x13 t)) ^^^ (x11 t)) ^^^ (x2 (x14 t))) = t := (by decide +kernel : ∀ t : Fin 256, ((((x3 (x9 t.1)) ^^^ (x13 t.1)) ^^^ (x11 t.1)) ^^^ (x2 (x14 t.1))) = t.1) ⟨t, ht⟩
  rw [h0, h1, h2, h3]
  simp
theorem mcw_bt (x : Nat) : bt0 (mcw x) = ((x2 (bt0 x) ^^^ x3 (bt1 x)) ^^^ bt2 x) ^^^ bt3 x ∧ bt1 (mcw x) = ((bt0 x ^^^ x2 (bt1 x)) ^^^ x3 (bt2 x)) ^^^ bt3 x ∧ bt2 (mcw x) = ((bt0 x ^^^ bt1 x) ^^^ x2 (bt2 x)) ^^^ x3 (bt3 x) ∧ bt3 (mcw x) = ((x3 (bt0 x) ^^^ bt1 x) ^^^ bt2 x) ^^^ x2 (bt3 x) :=
  bt_wd (xor_lt8 (xor_lt8 (xor_lt8 (xl2 (bt0_lt x)) (xl3 (bt1_lt x))) (bt2_lt x)) (bt3_lt x)) (xor_lt8 (xor_lt8 (xor_lt8 (bt0_lt x) (xl2 (bt1_lt x))) (xl3 (bt2_lt x))) (bt3_lt x)) (xor_lt8 (xor_lt8 (xor_lt8 (bt0_lt x) (bt1_lt x)) (xl2 (bt2_lt x))) (xl3 (bt3_lt x))) (xor_lt8 (xor_lt8 (xor_lt8 (xl3 (bt0_lt x)) (bt1_lt x)) (bt2_lt x)) (xl2 (bt3_lt x)))
theorem unmw_bt (x : Nat) : bt0 (unmw x) = ((x14 (bt0 x) ^^^ x11 (bt1 x)) ^^^ x13 (bt2 x)) ^^^ x9 (bt3 x) ∧ bt1 (unmw x) = ((x9 (bt0 x) ^^^ x14 (bt1 x)) ^^^ x11 (bt2 x)) ^^^ x13 (bt3 x) ∧ bt2 (unmw x) = ((x13 (bt0 x) ^^^ x9 (bt1 x)) ^^^ x14 (bt2 x)) ^^^ x11 (bt3 x) ∧ bt3 (unmw x) = ((x11 (bt0 x) ^^^ x13 (bt1 x)) ^^^ x9 (bt2 x)) ^^^ x14 (bt3 x) := by
  unfold unmw
  rw [unm_wd _ _ _ _ (bt0_lt x) (bt1_lt x) (bt2_lt x) (bt3_lt x)]
  have a := bt0_lt x
  have b := bt1_lt x
  have c := bt2_lt x
  have d := bt3_lt x
  exact bt_wd (xor_lt8 (xor_lt8 (xor_lt8 (xl14 a) (xl11 b)) (xl13 c)) (xl9 d)) (xor_lt8 (xor_lt8 (xor_lt8 (xl9 a) (xl14 b)) (xl11 c)) (xl13 d)) (xor_lt8 (xor_lt8 (xor_lt8 (xl13 a) (xl9 b)) (xl14 c)) (xl11 d)) (xor_lt8 (xor_lt8 (xor_lt8 (xl11 a) (xl13 b)) (xl9 c)) (xl14 d))
theorem unmw_mcw {x : Nat} (h : x < 4294967296) : unmw (mcw x) = x := by
  obtain ⟨e0, e1, e2, e3⟩ := mcw_bt x
  have a := bt0_lt x
  have b := bt1_lt x
  have c := bt2_lt x
  have d := bt3_lt x
  have hm := wd_bt (unmw_lt (mcw x))
  obtain ⟨u0, u1, u2, u3⟩ := unmw_bt (mcw x)
  rw [u0, u1, u2, u3, e0, e1, e2, e3, unm_mc0 _ _ _ _ a b c d, unm_mc1 _ _ _ _ a b c d, unm_mc2 _ _ _ _ a b c d, unm_mc3 _ _ _ _ a b c d, wd_bt h] at hm
  exact hm.symm
theorem mcw_lt (x : Nat) : mcw x < 4294967296 := by
  have a := bt0_lt x
  have b := bt1_lt x
  have c := bt2_lt x
  have d := bt3_lt x
  exact wd_lt (xor_lt8 (xor_lt8 (xor_lt8 (xl2 a) (xl3 b)) c) d) (xor_lt8 (xor_lt8 (xor_lt8 a (xl2 b)) (xl3 c)) d) (xor_lt8 (xor_lt8 (xor_lt8 a b) (xl2 c)) (xl3 d)) (xor_lt8 (xor_lt8 (xor_lt8 (xl3 a) b) c) (xl2 d))
theorem mcw_unmw {x : Nat} (h : x < 4294967296) : mcw (unmw x) = x := by
  obtain ⟨e0, e1, e2, e3⟩ := unmw_bt x
  have a := bt0_lt x
  have b := bt1_lt x
  have c := bt2_lt x
  have d := bt3_lt x
  have hm := wd_bt (mcw_lt (unmw x))
  obtain ⟨u0, u1, u2, u3⟩ := mcw_bt (unmw x)
  rw [u0, u1, u2, u3, e0, e1, e2, e3, mc_unm0 _ _ _ _ a b c d, mc_unm1 _ _ _ _ a b c d, mc_unm2 _ _ _ _ a b c d, mc_unm3 _ _ _ _ a b c d, wd_bt h] at hm
  exact hm.symm
theorem mixS_mc (s : W4) : mixS s = mcS (lastS s) := by unfold mixS mcS lastS; simp only [mix_mc]
theorem unmS_mixS (s : W4) : unmS (mixS s) = lastS s := by
  rw [mixS_mc]
  unfold unmS mcS
  obtain ⟨h1, h2, h3, h4⟩ := lastS_ok s
  simp only [unmw_mcw h1, unmw_mcw h2, unmw_mcw h3, unmw_mcw h4]
theorem mcS_unmS (s : W4) (hs : s.ok) : mcS (unmS s) = s := by
  unfold unmS mcS
  obtain ⟨h1, h2, h3, h4⟩ := hs
  simp only [mcw_unmw h1, mcw_unmw h2, mcw_unmw h3, mcw_unmw h4]
theorem itD_iterE {K : Nat → Nat} (hK : ∀ i, K i < 4294967296) (s : W4) (hs : s.ok) (r : Nat) : itD K r (lastS (iterE K r s)) = lastS s := by
  induction r with
  | zero => rw [itD_zero, iterE_zero]
  | succ r ih => rw [itD_succ, stepD, undo_last _ (iterE_ok hK hs _), iterE_succ, addK_addK, unmS_mixS, ih]
/-- Decryption undoes encryption. -/
theorem dec_enc {K : Nat → Nat} (hK : ∀ i, K i < 4294967296) (nr : Nat) (s : W4) (hs : s.ok) : dcW nr K (encW nr K s) = s := by
  rw [dcW, encW, addK_addK, itD_iterE hK _ (addK_ok hK 0 hs), undo_last _ (addK_ok hK 0 hs), addK_addK]
theorem iterE_itD {K : Nat → Nat} (hK : ∀ i, K i < 4294967296) (r : Nat) : ∀ t : W4, t.ok → lastS (iterE K r (undoS (itD K r t))) = t := by
  induction r with
  | zero => intro t ht; rw [itD_zero, iterE_zero]; exact last_undo t ht
  | succ r ih =>
    intro t ht
    have h := ih (stepD K (r + 1) t) (unmS_ok _)
    rw [itD_succ]
    generalize undoS (itD K r (stepD K (r + 1) t)) = y at h ⊢
    rw [iterE_succ, mixS_mc, h, stepD, mcS_unmS _ (addK_ok hK _ (undoS_ok t)), addK_addK, last_undo t ht]
/-- Encryption undoes decryption. -/
theorem enc_dec {K : Nat → Nat} (hK : ∀ i, K i < 4294967296) (nr : Nat) (s : W4) (hs : s.ok) : encW nr K (dcW nr K s) = s := by
  rw [dcW, encW, addK_addK, iterE_itD hK _ _ (addK_ok hK nr hs), addK_addK]
end Go.Proofs.YtgmfiljjogdccaaDoor
namespace Go.Proofs.YtgmfiljjogdccaaDoor
open Go.RowKit
set_option linter.unusedVariables false
/-- A state's columns. -/
def W4.col (s : W4) : Nat → Nat
  | 0 => s.a
  | 1 => s.b
  | 2 => s.c
  | _ => s.d
/-- A state's bytes. -/
def sb (s : W4) (j : Nat) : Nat := btn (s.col (j / 4)) (j % 4)
theorem sb_lt (s : W4) (j : Nat) : sb s j < 256 := btn_lt _ _
theorem col_lt {s : W4} (h : s.ok) (q : Nat) : s.col q < 4294967296 := by
  unfold W4.col
  split
  · exact h.1
  · exact h.2.1
  · exact h.2.2.1
  · exact h.2.2.2
theorem bt_xor {x y : Nat} (hx : x < 4294967296) (hy : y < 4294967296) (j : Nat) : btn (Nat.xor x y) j = Nat.xor (btn x j) (btn y j) := by
  have e : Nat.xor x y = wd (Nat.xor (bt0 x) (bt0 y)) (Nat.xor (bt1 x) (bt1 y)) (Nat.xor (bt2 x) (bt2 y)) (Nat.xor (bt3 x) (bt3 y)) := by
    have h1 := wd_bt hx
    have h2 := wd_bt hy
    have h3 := wd_xor (bt0 x) (bt1 x) (bt2 x) (bt3 x) (bt0 y) (bt1 y) (bt2 y) (bt3 y) (bt1_lt x) (bt2_lt x) (bt3_lt x) (bt1_lt y) (bt2_lt y) (bt3_lt y)
    rw [h1, h2] at h3
    exact h3
  obtain ⟨b0, b1, b2, b3⟩ := bt_wd (xor_lt8 (bt0_lt x) (bt0_lt y)) (xor_lt8 (bt1_lt x) (bt1_lt y)) (xor_lt8 (bt2_lt x) (bt2_lt y)) (xor_lt8 (bt3_lt x) (bt3_lt y))
  rw [← e] at b0 b1 b2 b3
  unfold btn
  split
  · exact b0
  · exact b1
  · exact b2
  · exact b3
theorem addK_col (K : Nat → Nat) (r : Nat) (s : W4) (q : Nat) (hq : q < 4) : (addK K r s).col q = Nat.xor (s.col q) (K (4 * r + q)) := by
  have h : q = 0 ∨ q = 1 ∨ q = 2 ∨ q = 3 := by omega
  rcases h with rfl | rfl | rfl | rfl <;> rfl
theorem sb_add {K : Nat → Nat} (hK : ∀ i, K i < 4294967296) (r : Nat) {s : W4} (hs : s.ok) (j : Nat) (hj : j < 16) : sb (addK K r s) j = Nat.xor (sb s j) (rb K (16 * r + j)) := by
  unfold sb rb
  rw [addK_col K r s _ (by omega), bt_xor (col_lt hs _) (hK _), show (16 * r + j) / 4 = 4 * r + j / 4 by omega, show (16 * r + j) % 4 = j % 4 by omega]
theorem sb_at (s : W4) (c i : Nat) (hi : i < 4) : sb s (4 * c + i) = btn (s.col c) i := by
  unfold sb
  rw [show (4 * c + i) / 4 = c by omega, show (4 * c + i) % 4 = i by omega]
theorem last_btn (v : Nat → Nat) (i : Nat) (hi : i < 4) : btn (lastw (v 0) (v 1) (v 2) (v 3)) i = SB (btn (v i) i) := by
  obtain ⟨e0, e1, e2, e3⟩ := bt_last (v 0) (v 1) (v 2) (v 3)
  have h : i = 0 ∨ i = 1 ∨ i = 2 ∨ i = 3 := by omega
  rcases h with rfl | rfl | rfl | rfl
  · rw [btn0, e0, btn0]
  · rw [btn1, e1, btn1]
  · rw [btn2, e2, btn2]
  · rw [btn3, e3, btn3]
theorem undo_btn (v : Nat → Nat) (i : Nat) (hi : i < 4) : btn (undow (v 0) (v 1) (v 2) (v 3)) i = UB (btn (v i) i) := by
  obtain ⟨e0, e1, e2, e3⟩ := bt_undo (v 0) (v 1) (v 2) (v 3)
  have h : i = 0 ∨ i = 1 ∨ i = 2 ∨ i = 3 := by omega
  rcases h with rfl | rfl | rfl | rfl
  · rw [btn0, e0, btn0]
  · rw [btn1, e1, btn1]
  · rw [btn2, e2, btn2]
  · rw [btn3, e3, btn3]
theorem last_col (s : W4) (c : Nat) (hc : c < 4) : (lastS s).col c = lastw (s.col ((c + 0) % 4)) (s.col ((c + 1) % 4)) (s.col ((c + 2) % 4)) (s.col ((c + 3) % 4)) := by
  have h : c = 0 ∨ c = 1 ∨ c = 2 ∨ c = 3 := by omega
  rcases h with rfl | rfl | rfl | rfl <;> simp [W4.col, lastS]
theorem undo_col (s : W4) (q : Nat) (hq : q < 4) : (undoS s).col q = undow (s.col ((q + 4 - 0) % 4)) (s.col ((q + 4 - 1) % 4)) (s.col ((q + 4 - 2) % 4)) (s.col ((q + 4 - 3) % 4)) := by
  have h : q = 0 ∨ q = 1 ∨ q = 2 ∨ q = 3 := by omega
  rcases h with rfl | rfl | rfl | rfl <;> simp [W4.col, undoS]
theorem sb_last (s : W4) (c i : Nat) (hc : c < 4) (hi : i < 4) : sb (lastS s) (4 * c + i) = SB (sb s (4 * ((c + i) % 4) + i)) := by
  rw [sb_at _ _ _ hi, sb_at _ _ _ hi, last_col s c hc]
  exact last_btn (fun i => s.col ((c + i) % 4)) i hi
theorem sb_undo (s : W4) (c i : Nat) (hc : c < 4) (hi : i < 4) : sb (undoS s) (4 * ((c + i) % 4) + i) = UB (sb s (4 * c + i)) := by
  rw [sb_at _ _ _ hi, sb_at _ _ _ hi, undo_col s _ (by omega)]
  have := undo_btn (fun j => s.col (((c + i) % 4 + 4 - j) % 4)) i hi
  rw [this, show ((c + i) % 4 + 4 - i) % 4 = c by omega]
/-- A column's product, its first n terms. -/
def colX (row b : Nat → Nat) (c r : Nat) : Nat → Nat
  | 0 => 0
  | n + 1 => Nat.xor (colX row b c r n) (byF (row ((n + 4 - r) % 4)) (b (4 * c + n)))
def rowE : Nat → Nat
  | 0 => 2
  | 1 => 3
  | _ => 1
def rowD : Nat → Nat
  | 0 => 14
  | 1 => 11
  | 2 => 13
  | _ => 9
theorem byF_lt (r j : Nat) (h : j < 256) : byF r j < 256 := by
  unfold byF
  split
  · exact h
  · exact xl2 h
  · exact xl3 h
  · exact xl9 h
  · exact xl11 h
  · exact xl13 h
  · exact xl14 h
theorem colX_lt (row b : Nat → Nat) (hb : ∀ j, b j < 256) (c r : Nat) : ∀ n, colX row b c r n < 256
  | 0 => by rw [colX]; decide
  | n + 1 => xor_lt8 (colX_lt row b hb c r n) (byF_lt _ _ (hb _))
theorem zero_xor8 (a : Nat) : Nat.xor 0 a = a := Nat.zero_xor a
theorem colX4 (row b : Nat → Nat) (c r : Nat) : colX row b c r 4 = Nat.xor (Nat.xor (Nat.xor (byF (row ((0 + 4 - r) % 4)) (b (4 * c))) (byF (row ((1 + 4 - r) % 4)) (b (4 * c + 1)))) (byF (row ((2 + 4 - r) % 4)) (b (4 * c + 2)))) (byF (row ((3 + 4 - r) % 4)) (b (4 * c + 3))) := by
  simp only [colX, zero_xor8, Nat.add_zero]
theorem col_map (f : Nat → Nat) (s : W4) (c : Nat) (hc : c < 4) : W4.col ⟨f s.a, f s.b, f s.c, f s.d⟩ c = f (s.col c) := by
  have h : c = 0 ∨ c = 1 ∨ c = 2 ∨ c = 3 := by omega
  rcases h with rfl | rfl | rfl | rfl <;> rfl
theorem mc_col (s : W4) (c : Nat) (hc : c < 4) : (mcS s).col c = mcw (s.col c) := by
  unfold mcS
  exact col_map mcw s c hc
theorem unm_col (s : W4) (c : Nat) (hc : c < 4) : (unmS s).col c = unmw (s.col c) := by
  unfold unmS
  exact col_map unmw s c hc
theorem sb_mc (s : W4) (c r : Nat) (hc : c < 4) (hr : r < 4) : colX rowE (sb s) c r 4 = sb (mcS s) (4 * c + r) := by
  have b0 := sb_at s c 0 (by decide)
  rw [Nat.add_zero] at b0
  rw [colX4, b0, sb_at s c 1 (by decide), sb_at s c 2 (by decide), sb_at s c 3 (by decide), sb_at _ c r hr, mc_col s c hc]
  obtain ⟨e0, e1, e2, e3⟩ := mcw_bt (s.col c)
  generalize s.col c = x at *
  have h : r = 0 ∨ r = 1 ∨ r = 2 ∨ r = 3 := by omega
  rcases h with rfl | rfl | rfl | rfl
  · rw [btn0 (mcw x), e0]; rfl
  · rw [btn1 (mcw x), e1]; rfl
  · rw [btn2 (mcw x), e2]; rfl
  · rw [btn3 (mcw x), e3]; rfl
theorem sb_unm (s : W4) (c r : Nat) (hc : c < 4) (hr : r < 4) : colX rowD (sb s) c r 4 = sb (unmS s) (4 * c + r) := by
  have b0 := sb_at s c 0 (by decide)
  rw [Nat.add_zero] at b0
  rw [colX4, b0, sb_at s c 1 (by decide), sb_at s c 2 (by decide), sb_at s c 3 (by decide), sb_at _ c r hr, unm_col s c hc]
  obtain ⟨e0, e1, e2, e3⟩ := unmw_bt (s.col c)
  generalize s.col c = x at *
  have h : r = 0 ∨ r = 1 ∨ r = 2 ∨ r = 3 := by omega
  rcases h with rfl | rfl | rfl | rfl
  · rw [btn0 (unmw x), e0]; rfl
  · rw [btn1 (unmw x), e1]; rfl
  · rw [btn2 (unmw x), e2]; rfl
  · rw [btn3 (unmw x), e3]; rfl
/-- Sixteen bytes as an array. -/
def arL (f : Nat → Nat) : List Value := [.int .u8 (f 0 : Nat), .int .u8 (f 1 : Nat), .int .u8 (f 2 : Nat), .int .u8 (f 3 : Nat), .int .u8 (f 4 : Nat), .int .u8 (f 5 : Nat), .int .u8 (f 6 : Nat), .int .u8 (f 7 : Nat), .int .u8 (f 8 : Nat), .int .u8 (f 9 : Nat), .int .u8 (f 10 : Nat), .int .u8 (f 11 : Nat), .int .u8 (f 12 : Nat), .int .u8 (f 13 : Nat), .int .u8 (f 14 : Nat), .int .u8 (f 15 : Nat)]
def arA (f : Nat → Nat) : Array Value := #[.int .u8 (f 0 : Nat), .int .u8 (f 1 : Nat), .int .u8 (f 2 : Nat), .int .u8 (f 3 : Nat), .int .u8 (f 4 : Nat), .int .u8 (f 5 : Nat), .int .u8 (f 6 : Nat), .int .u8 (f 7 : Nat), .int .u8 (f 8 : Nat), .int .u8 (f 9 : Nat), .int .u8 (f 10 : Nat), .int .u8 (f 11 : Nat), .int .u8 (f 12 : Nat), .int .u8 (f 13 : Nat), .int .u8 (f 14 : Nat), .int .u8 (f 15 : Nat)]
theorem arA_list (f : Nat → Nat) : (arA f).toList = arL f := rfl
theorem arL_array (f : Nat → Nat) : (arL f).toArray = arA f := rfl
theorem arL_map (f : Nat → Nat) : arL f = (List.range 16).map fun j => .int .u8 (f j : Nat) := by simp [arL, List.range_succ]
theorem arL_at (f : Nat → Nat) (j : Nat) (h : j < 16) : (arL f)[j]? = some (.int .u8 (f j : Nat)) := by rw [arL_map]; simp [h]
theorem blk_sb (s : W4) : s.blk = .agg (arA (sb s)) := rfl
theorem arL_congr {f g : Nat → Nat} (h : ∀ j, j < 16 → f j = g j) : arL f = arL g := by
  rw [arL_map, arL_map]
  exact List.map_congr_left fun j hj => by rw [h j (by simpa using hj)]
theorem arA_congr {f g : Nat → Nat} (h : ∀ j, j < 16 → f j = g j) : arA f = arA g := by rw [← arL_array, ← arL_array, arL_congr h]
end Go.Proofs.YtgmfiljjogdccaaDoor
