import Derived.Test.YtcnikfikpnnblaaGreatDoorPart15
import Derived.Test.YtcnikfikpnnblaaGreatDoorPart08
import Derived.Test.YtcnikfikpnnblaaGreatDoorBlk
namespace Go.Proofs.YtcnikfikpnnblaaGreatDoor
open Go.RowKit
set_option linter.unusedVariables false
/-- S and its inverse as cells. -/
def sbL : List Value := (List.range 256).map fun j => .int .u8 (SB j : Nat)
def ubL : List Value := (List.range 256).map fun j => .int .u8 (UB j : Nat)
theorem sbL_at (j : Nat) (h : j < 256) : sbL[j]? = some (.int .u8 (SB j : Nat)) := by simp [sbL, h]
theorem ubL_at (j : Nat) (h : j < 256) : ubL[j]? = some (.int .u8 (UB j : Nat)) := by simp [ubL, h]
theorem sbL_len : sbL.length = 256 := by simp [sbL]
theorem ubL_len : ubL.length = 256 := by simp [ubL]
theorem sbL_one : sbL.toArray.all (·.oneCell') = true := all_oneCell_toArray (fun v hv => by
 simp only [sbL, List.mem_map] at hv
 obtain ⟨j, _, rfl⟩ := hv
 rfl)
theorem ubL_one : ubL.toArray.all (·.oneCell') = true := all_oneCell_toArray (fun v hv => by
 simp only [ubL, List.mem_map] at hv
 obtain ⟨j, _, rfl⟩ := hv
 rfl)
theorem sbL_range {w : World} {b o : Nat} (h : ∀ j, j < 256 → w.cell? ⟨b, o + j, none⟩ = some (.int .u8 (SB j : Nat))) : w.rangeAt b o sbL := fun j v hv => by
 have hj : j < 256 := by have := (List.getElem?_eq_some_iff.1 hv).1; rw [sbL_len] at this; exact this
 rw [sbL_at j hj] at hv
 rw [h j hj]; exact hv
theorem ubL_range {w : World} {b o : Nat} (h : ∀ j, j < 256 → w.cell? ⟨b, o + j, none⟩ = some (.int .u8 (UB j : Nat))) : w.rangeAt b o ubL := fun j v hv => by
 have hj : j < 256 := by have := (List.getElem?_eq_some_iff.1 hv).1; rw [ubL_len] at this; exact this
 rw [ubL_at j hj] at hv
 rw [h j hj]; exact hv
theorem size65 : (Tryz.prog.info? 143).map (·.size) = some 256 := by kernel_rfl
theorem zsize65 : Tryz.zeroCells143.size = 256 := by kernel_rfl
/-- What stands while the boxes are filled. -/
structure BxS (w : World) (b1 b2 b3 : Nat) (u : World) : Prop where
 old : Below w.heap.size w u
 r0 : u.there w.heap.size 0 256
 r1 : u.there b1 0 256
 s : u.there b2 0 256
 t : u.there b3 0 256
theorem BxS.set {w u : World} {b1 b2 b3 : Nat} (h : BxS w b1 b2 b3 u) (b j : Nat) (v : Value) (hb : w.heap.size ≤ b) : BxS w b1 b2 b3 (u.setCell ⟨b, j, none⟩ v) :=
 ⟨h.old.setCell hb _, World.there_setCells h.r0 _ _ [_], World.there_setCells h.r1 _ _ [_], World.there_setCells h.s _ _ [_], World.there_setCells h.t _ _ [_]⟩
theorem bx_start (w : World) (C : Array Value) (hC : C.size = 256) : BxS w (w.heap.size + 1) (w.heap.size + 1 + 1) (w.heap.size + 1 + 1 + 1) ((((w.alloc (.cells C 143)).alloc (.cells C 143)).alloc (.cells C 143)).alloc (.cells C 143)) := by
 have hl : 256 ≤ C.size := by omega
 have s1 : (w.alloc (.cells C 143)).heap.size = w.heap.size + 1 := by simp
 have s2 : ((w.alloc (.cells C 143)).alloc (.cells C 143)).heap.size = w.heap.size + 1 + 1 := by simp
 have s3 : (((w.alloc (.cells C 143)).alloc (.cells C 143)).alloc (.cells C 143)).heap.size = w.heap.size + 1 + 1 + 1 := by simp
 refine ⟨((((Below.refl _ w).alloc (Nat.le_refl _) _).alloc (by omega) _).alloc (by omega) _).alloc (by omega) _, ?_, ?_, ?_, ?_⟩
 ·exact World.there_alloc (World.there_alloc (World.there_alloc (there_new w C 143 256 hl) _) _) _
 ·have := there_new (w.alloc (.cells C 143)) C 143 256 hl
  rw [s1] at this
  exact World.there_alloc (World.there_alloc this _) _
 ·have := there_new ((w.alloc (.cells C 143)).alloc (.cells C 143)) C 143 256 hl
  rw [s2] at this
  exact World.there_alloc this _
 ·have := there_new (((w.alloc (.cells C 143)).alloc (.cells C 143)).alloc (.cells C 143)) C 143 256 hl
  rw [s3] at this
  exact this
theorem there_cell {w : World} {b n : Nat} (h : w.there b 0 n) (j : Nat) (hj : j < n) : ∃ v, w.cell? ⟨b, j, none⟩ = some v := by
 have := (h j hj).1
 rw [Nat.zero_add] at this
 exact Option.isSome_iff_exists.1 this
theorem there_froz {w : World} {b n : Nat} (h : w.there b 0 n) (j : Nat) (hj : j < n) : w.frozen? ⟨b, j, none⟩ = false := by
 have := (h j hj).2
 rw [Nat.zero_add] at this
 exact this
theorem set_same {w : World} {b n j : Nat} (v : Value) (h : w.there b 0 n) (hj : j < n) : (w.setCell ⟨b, j, none⟩ v).cell? ⟨b, j, none⟩ = some v := by
 have := cell_same (i := j) v h hj
 rw [Nat.zero_add] at this
 exact this
theorem results_cell_cell {fn : Func} {p u : Tmp} {ty : TypeId} (h : fn.results = #[.cell p ty, .cell u ty]) (tmps : Array Value) (P : Program) (w : World) :
  (results fn tmps).run P w =
   ((asAddr (tmps.getD p undef)).run P w).andThen fun a w₁ => ((loadVar ty a).run P w₁).andThen fun v w₂ => ((asAddr (tmps.getD u undef)).run P w₂).andThen fun c w₃ => ((loadVar ty c).run P w₃).andThen fun x w₄ => .ok (.tuple #[v, x]) w₄ := by
 simp only [results, h]
 simp [Sem.run_bind, Result.andThen]
theorem ret_cells2 {P : Program} {fn : Func} {p t : Tmp} {ty : TypeId} {d : TypeDesc} {Q : Ending → World → Prop} {tmps : Array Value} {w : World} {b c : Nat} (cs ds : List Value) (h : fn.results = #[.cell p ty, .cell t ty])
  (hp : tmps.getD p undef = .pointer (some ⟨b, 0, none⟩)) (ht : tmps.getD t undef = .pointer (some ⟨c, 0, none⟩)) (hr : w.rangeAt b 0 cs) (hs : w.rangeAt c 0 ds) (hu : P.underlying ty = some d) (hd : d.isRow = true) (hi : (P.info? ty).map (·.size) = some cs.length) (hj : (P.info? ty).map (·.size) = some ds.length)
  (hq : Q (.returned (.tuple #[.agg cs.toArray, .agg ds.toArray])) w) : bodyPost P fn Q .ret ⟨tmps, []⟩ w := by
 refine bodyPost_ret (v := .tuple #[.agg cs.toArray, .agg ds.toArray]) ?_ rfl hq
 rw [results_cell_cell h]
 have hl := run_loadVar_mid (P := P) w b 0 ty cs d hr hu hd hi
 have hm := run_loadVar_mid (P := P) w c 0 ty ds d hs hu hd hj
 simp [hp, ht, asAddr, hl, hm]
set_option maxHeartbeats 1600000 in
set_option maxRecDepth 100000 in
theorem boxes_ok (w : World) : Calls Tryz.prog 102 #[] w fun e w' => e = .returned (.tuple #[.agg sbL.toArray, .agg ubL.toArray]) ∧ Below w.heap.size w w' := by
 have HB := bx_start w Tryz.zeroCells143 zsize65
 go_enter Tryz.func102, Tryz.ntmps102
 go_wp2
 have HI : Hid (BxS w (w.heap.size + 1) (w.heap.size + 1 + 1) (w.heap.size + 1 + 1 + 1) ((((w.alloc (.cells Tryz.zeroCells143 143)).alloc (.cells Tryz.zeroCells143 143)).alloc (.cells Tryz.zeroCells143 143)).alloc (.cells Tryz.zeroCells143 143))) := HB
 clear HB
 generalize ((((w.alloc (.cells Tryz.zeroCells143 143)).alloc (.cells Tryz.zeroCells143 143)).alloc (.cells Tryz.zeroCells143 143)).alloc (.cells Tryz.zeroCells143 143)) = w4 at HI ⊢
 obtain ⟨b3, HB3⟩ : ∃ b, Hid (w.heap.size + 1 + 1 + 1 = b) := ⟨_, rfl⟩
 obtain ⟨b2, HB2⟩ : ∃ b, Hid (w.heap.size + 1 + 1 = b) := ⟨_, rfl⟩
 obtain ⟨b1, HB1⟩ : ∃ b, Hid (w.heap.size + 1 = b) := ⟨_, rfl⟩
 rw [HB3.out, HB2.out, HB1.out] at HI ⊢
 have HBB : Hid (w.heap.size < b1 ∧ b1 < b2 ∧ b2 < b3) := ⟨by have := HB1.out; omega, by have := HB1.out; have := HB2.out; omega, by have := HB2.out; have := HB3.out; omega⟩
 clear HB1 HB2 HB3
 go_loopw [4, 5, 6] (fun b y i wr => ∃ k : Nat, k ≤ 255 ∧ i = .int .i64 k ∧ b = .int .u8 (pwT k : Nat) ∧ y = .int .u8 (ivT k : Nat) ∧ Hid (BxS w b1 b2 b3 wr ∧ ∀ j, j < k → wr.cell? ⟨b2, pwT j, none⟩ = some (.int .u8 (SB (pwT j) : Nat)))) (fun _ _ i _ => 255 - (intOf i).toNat)
 case atStart => exact ⟨0, by omega, rfl, rfl, rfl, HI.out, fun j hj => by omega⟩
 case round =>
  obtain ⟨k, hk, rfl, rfl, rfl, HR⟩ := hrel
  by_cases hlt : k < 255
  ·obtain ⟨e1, e2, e3⟩ := pw_step ⟨k, hlt⟩
   simp only at e1 e2 e3
   obtain ⟨p, HP⟩ : ∃ p, Hid (p = pwT k) := ⟨_, rfl⟩
   obtain ⟨v, HV⟩ : ∃ p, Hid (p = ivT k) := ⟨_, rfl⟩
   have hp : p < 256 := by rw [HP.out]; exact pwT_lt k
   have hv : v < 256 := by rw [HV.out]; exact ivT_lt k
   have K1 : Hid (∀ u, Calls Tryz.prog 165 #[.int .i64 (v : Nat)] u fun e u' => e = .returned (.int .u8 (SB p : Nat)) ∧ u' = u) := fun u => (refBits_ok v hv u).mono fun e u' ⟨z, _, hz, h1, h2⟩ => ⟨by rw [h1, hz.out, HV.out, e3, HP.out], h2⟩
   have K3 : Hid (∀ u, Calls Tryz.prog 103 #[.int .u8 (p : Nat), .int .u8 3] u fun e u' => e = .returned (.int .u8 (pwT (k + 1) : Nat)) ∧ u' = u) := fun u => (refTimes p 3 hp (by decide) u).mono fun e u' ⟨h1, h2⟩ => ⟨by rw [h1, HP.out, e1], h2⟩
   have K4 : Hid (∀ u, Calls Tryz.prog 103 #[.int .u8 (v : Nat), .int .u8 246] u fun e u' => e = .returned (.int .u8 (ivT (k + 1) : Nat)) ∧ u' = u) := fun u => (refTimes v 246 hv (by decide) u).mono fun e u' ⟨h1, h2⟩ => ⟨by rw [h1, HV.out, e2], h2⟩
   clear e1 e2 e3
   obtain ⟨p', HP'⟩ : ∃ p, Hid (p = pwT (k + 1)) := ⟨_, rfl⟩
   obtain ⟨v', HV'⟩ : ∃ p, Hid (p = ivT (k + 1)) := ⟨_, rfl⟩
   rw [← HP'.out] at K3
   rw [← HV'.out] at K4
   rw [← HP.out, ← HV.out]
   obtain ⟨c0, hc0⟩ := there_cell HR.out.1.s p hp
   have hf0 := there_froz HR.out.1.s p hp
   have hpi : ((p : Nat) : Int) < 256 := by omega
   have hvi : IntKind.i64.wrap ((v : Nat) : Int) = ((v : Nat) : Int) := wraps_i64 _ (by omega) (by omega)
   go_wp2_with (first | (go_at_call 165; (refine (K1.out _).mono ?_); (rintro e2 w2 ⟨rfl, hw2⟩; obtain rfl := hw2.symm)) | (go_at_call 103; (refine (K3.out _).mono ?_)))
   rintro e4 w4 ⟨rfl, hw4⟩
   obtain rfl := hw4.symm
   go_wp2_with (first | (go_at_call 103; (refine (K4.out _).mono ?_)))
   rintro e5 w5 ⟨rfl, hw5⟩
   obtain rfl := hw5.symm
   go_wp2
   refine ⟨⟨k + 1, by omega, rfl, by rw [HP'.out], by rw [HV'.out], HR.out.1.set _ _ _ (by have := HBB.out; omega), fun j hj => ?_⟩, ?_⟩
   ·by_cases hjk : p = pwT j
    ·rw [← hjk]; exact set_same _ HR.out.1.s hp
    ·have hj' : j < k := by
      rcases Nat.lt_or_ge j k with h | h
      ·exact h
      ·exact absurd (show p = pwT j by rw [show j = k by omega]; exact HP.out) hjk
     rw [cell_other _ _ _ _ _ hjk]
     exact HR.out.2 j hj'
   ·simp only [intOf]; omega
  ·obtain rfl : k = 255 := by omega
   clear hlt hk
   obtain ⟨p, HP⟩ : ∃ p, Hid (p = pwT 255) := ⟨_, rfl⟩
   obtain ⟨v, HV⟩ : ∃ p, Hid (p = ivT 255) := ⟨_, rfl⟩
   rw [← HP.out, ← HV.out]
   have K1 : Hid (∀ u, Calls Tryz.prog 165 #[.int .i64 0] u fun e u' => e = .returned (.int .u8 (SB 0 : Nat)) ∧ u' = u) := fun u => (refBits_ok 0 (by decide) u).mono fun e u' ⟨z, _, hz, h1, h2⟩ => ⟨by rw [h1, hz.out]; exact congrArg (fun n : Nat => Ending.returned (.int .u8 (n : Nat))) (by decide +kernel : sprN 0 = SB 0), h2⟩
   obtain ⟨z0, HZ0⟩ : ∃ p, Hid (p = SB 0) := ⟨_, rfl⟩
   rw [← HZ0.out] at K1
   obtain ⟨c0, hc0⟩ := there_cell HR.out.1.s 0 (by decide)
   have hf0 := there_froz HR.out.1.s 0 (by decide)
   go_wp2_with (first | (go_at_call 165; (refine (K1.out _).mono ?_); (rintro e2 w2 ⟨rfl, hw2⟩; obtain rfl := hw2.symm)))
   have H2 : Hid (BxS w b1 b2 b3 (wr.setCell ⟨b2, 0, none⟩ (.int .u8 (z0 : Nat))) ∧ ∀ j, j < 256 → (wr.setCell ⟨b2, 0, none⟩ (.int .u8 (z0 : Nat))).cell? ⟨b2, j, none⟩ = some (.int .u8 (SB j : Nat))) := by
    refine ⟨HR.out.1.set _ _ _ (by have := HBB.out; omega), fun j hj => ?_⟩
    by_cases h0 : j = 0
    ·subst h0; rw [HZ0.out]; exact set_same _ HR.out.1.s (by decide)
    ·rw [cell_other _ _ _ _ _ (fun h => h0 h.symm)]
     rcases lg_all ⟨j, hj⟩ with h | ⟨h1, h2⟩
     ·exact absurd h h0
     ·simp only at h1 h2
      have := HR.out.2 _ h1
      rw [h2] at this
      exact this
   clear HR hc0 hf0 K1
   generalize wr.setCell ⟨b2, 0, none⟩ (.int .u8 (z0 : Nat)) = w5 at H2 ⊢
   go_loopw [7] (fun i wr => ∃ k : Nat, k ≤ 256 ∧ i = .int .i64 k ∧ Hid (BxS w b1 b2 b3 wr ∧ (∀ j, j < 256 → wr.cell? ⟨b2, j, none⟩ = some (.int .u8 (SB j : Nat))) ∧ ∀ j, j < k → wr.cell? ⟨b3, SB j, none⟩ = some (.int .u8 (j : Nat)))) (fun i _ => 256 - (intOf i).toNat)
   case atStart => exact ⟨0, by omega, rfl, H2.out.1, H2.out.2, fun j hj => by omega⟩
   case round =>
    obtain ⟨k, hk, rfl, HR⟩ := hrel
    by_cases hlt : k < 256
    ·have ck := HR.out.2.1 k hlt
     obtain ⟨q, HQ⟩ : ∃ q, Hid (q = SB k) := ⟨_, rfl⟩
     rw [← HQ.out] at ck
     have hq : q < 256 := by rw [HQ.out]; exact SB_lt k
     have hqi : ((q : Nat) : Int) < 256 := by omega
     have hki : ((k : Nat) : Int) < 256 := by omega
     obtain ⟨c1, hc1⟩ := there_cell HR.out.1.t q hq
     have hf1 := there_froz HR.out.1.t q hq
     have hm : ((k : Nat) : Int) % 256 = ((k : Nat) : Int) := by omega
     go_wp2
     refine ⟨⟨k + 1, by omega, rfl, HR.out.1.set _ _ _ (by have := HBB.out; omega), fun j hj => ?_, fun j hj => ?_⟩, ?_⟩
     ·rw [World.cell?_setCell_far _ _ _ _ (by have := HBB.out; show b3 ≠ b2; omega)]
      exact HR.out.2.1 j hj
     ·by_cases hjk : j = k
      ·subst hjk; rw [HQ.out] at hq ⊢; exact set_same _ HR.out.1.t hq
      ·rw [cell_other _ _ _ _ _ (fun h => hjk (SB_inj (by omega) hlt (h.symm.trans HQ.out)))]
       exact HR.out.2.2 j (by omega)
     ·simp only [intOf]; omega
    ·obtain rfl : k = 256 := by omega
     have RS : Hid (wr.rangeAt b2 0 sbL) := sbL_range (fun j hj => by rw [Nat.zero_add]; exact HR.out.2.1 j hj)
     have RU : Hid (wr.rangeAt b3 0 ubL) := ubL_range (fun j hj => by
      rw [Nat.zero_add]
      have := HR.out.2.2 (UB j) (UB_lt j)
      rw [(UB_SB ⟨j, hj⟩).2] at this
      exact this)
     clear hlt hk H2
     go_wp2
     obtain ⟨SL, HSL⟩ : ∃ L, Hid (L = sbL) := ⟨_, rfl⟩
     obtain ⟨UL, HUL⟩ : ∃ L, Hid (L = ubL) := ⟨_, rfl⟩
     rw [← HSL.out] at RS
     rw [← HUL.out] at RU
     have HSl : Hid (SL.toArray.size = 256) := by show _ = _; rw [HSL.out]; exact sbL_len
     have HUl : Hid (UL.toArray.size = 256) := by show _ = _; rw [HUL.out]; exact ubL_len
     have HSo : Hid (SL.toArray.all (·.oneCell') = true) := by show _ = _; rw [HSL.out]; exact sbL_one
     have HUo : Hid (UL.toArray.all (·.oneCell') = true) := by show _ = _; rw [HUL.out]; exact ubL_one
     have hS0 : ∀ p : Addr, b2 ≤ p.block → wr.drew.cell? p = wr.cell? p := fun p _ => rfl
     have G2 : Hid (∀ u : World, (∀ p : Addr, b2 ≤ p.block → u.cell? p = wr.cell? p) → u.rangeAt b2 0 SL) := fun u hu j v hv => (hu _ (Nat.le_refl _)).trans (RS.out j v hv)
     have G3 : Hid (∀ u : World, (∀ p : Addr, b2 ≤ p.block → u.cell? p = wr.cell? p) → u.rangeAt b3 0 UL) := fun u hu j v hv => (hu _ (Nat.le_of_lt HBB.out.2.2)).trans (RU.out j v hv)
     have HT0 : Hid (wr.drew.there w.heap.size 0 SL.toArray.size) := by show World.there _ _ _ _; rw [HSl.out]; exact (World.there_drew _ _ _ _).2 HR.out.1.r0
     have HT1 : Hid (wr.drew.there b1 0 UL.toArray.size) := by show World.there _ _ _ _; rw [HUl.out]; exact (World.there_drew _ _ _ _).2 HR.out.1.r1
     have s65a : Hid ((Tryz.prog.info? 143).map (·.size) = some SL.toArray.size) := by show _ = _; rw [HSl.out]; exact size65
     have s65b : Hid ((Tryz.prog.info? 143).map (·.size) = some UL.toArray.size) := by show _ = _; rw [HUl.out]; exact size65
     refine wp_region_noPanic ?_
     refine wp_region_held_drew (S := fun u => ∀ p : Addr, b2 ≤ p.block → u.cell? p = wr.cell? p) (by kernel_rfl) (hS0) (fun _ => ?_)
     refine takeH_at 0 33 (.agg SL.toArray) rfl rfl (by kernel_rfl) (by kernel_rfl) (by kernel_rfl) (fun _ _ _ h => h) (hS0) (yieldsIf_load_mid (by kernel_rfl) 143 (.tmp 2) rfl b2 0 rfl SL _ (fun u hu => G2.out u hu) Tryz.underlying143 rfl s65a.out) ?_
     simp only [List.setIfInBounds_toArray, List.set_cons_zero, List.set_cons_succ]
     refine takeH_at 1 34 (.agg UL.toArray) rfl rfl (by kernel_rfl) (by kernel_rfl) (by kernel_rfl) (fun _ _ _ h => h) (hS0) (yieldsIf_load_mid (by kernel_rfl) 143 (.tmp 3) rfl b3 0 rfl UL _ (fun u hu => G3.out u hu) Tryz.underlying143 rfl s65b.out) ?_
     simp only [List.setIfInBounds_toArray, List.set_cons_zero, List.set_cons_succ]
     refine wpAnyH_ready (rs := [2]) (by kernel_rfl) (by simp) ?_
     refine AllReadyH.cons rfl (fun Kx hK => ?_) AllReadyH.nil
     rw [if_pos (by kernel_rfl)]
     refine wp_store_mid 143 (.tmp 0) (.tmp 33) rfl w.heap.size 0 SL.toArray rfl rfl HT0.out s65a.out HSo.out ?_
     have hS1 : ∀ p : Addr, b2 ≤ p.block → (wr.drew.setCells w.heap.size 0 SL).cell? p = wr.cell? p := fun p hp => (World.cell?_setCells_out _ _ _ _ _ (fun e => by have := HBB.out; omega)).trans (hS0 p hp)
     refine hK.out _ _ hS1 (fun _ => ?_)
     clear hK Kx
     try simp only [Act.put]
     refine wpAnyH_ready (rs := [3]) (by kernel_rfl) (by simp) ?_
     refine AllReadyH.cons rfl (fun Kx hK => ?_) AllReadyH.nil
     rw [if_pos (by kernel_rfl)]
     refine wp_store_mid 143 (.tmp 1) (.tmp 34) rfl b1 0 UL.toArray rfl rfl (World.there_setCells HT1.out _ _ _) s65b.out HUo.out ?_
     have hS2 : ∀ p : Addr, b2 ≤ p.block → ((wr.drew.setCells w.heap.size 0 SL).setCells b1 0 UL).cell? p = wr.cell? p := fun p hp => (World.cell?_setCells_out _ _ _ _ _ (fun e => by have := HBB.out; omega)).trans (hS1 p hp)
     refine hK.out _ _ hS2 (fun _ => ?_)
     clear hK Kx
     refine wpAnyH_done (by kernel_rfl) ?_ _
     refine NoPanic.normal ?_
     have hlast : Hid (((wr.drew.setCells w.heap.size 0 SL).setCells b1 0 UL).rangeAt w.heap.size 0 SL) := fun j v hv => (World.cell?_setCells_out b1 _ _ _ _ (fun e => by have h1 := HBB.out.1; have h2 : w.heap.size = b1 := e; omega)).trans (World.rangeAt_setCells_same _ _ _ _ HT0.out j v hv)
     have hlast2 : Hid (((wr.drew.setCells w.heap.size 0 SL).setCells b1 0 UL).rangeAt b1 0 UL) := World.rangeAt_setCells_same _ _ _ _ (World.there_setCells HT1.out _ _ _)
     have hbel : Hid (Below w.heap.size w ((wr.drew.setCells w.heap.size 0 SL).setCells b1 0 UL)) := belowB_setCells _ (by have := HBB.out; omega) _ _ _ (belowB_setCells _ (Nat.le_refl _) _ _ _ HR.out.1.old.drew)
     go_wp2
     refine ret_cells2 SL UL Tryz.results102 rfl rfl hlast.out hlast2.out Tryz.underlying143 rfl s65a.out s65b.out ⟨by rw [HSL.out, HUL.out], hbel.out⟩
end Go.Proofs.YtcnikfikpnnblaaGreatDoor
