import Derived.Test.YtgmfiljjogdccaaDoorProg
import Derived.Conc.RwLib
import Derived.KernelRfl
import Derived.Test.YtgmfiljjogdccaaDoorPart11
import Derived.Test.YtgmfiljjogdccaaDoorEnc
import Derived.Conc.RwLone
import Derived.Defers
import Derived.Test.YtgmfiljjogdccaaDoorBkd
import Derived.Laws.ResultCell
import Derived.Test.YtgmfiljjogdccaaDoorPart06
namespace Go.Proofs.YtgmfiljjogdccaaDoor
abbrev rwLink : Go.Conc.Locks.RwLink := { lock := 103, unlock := 0, ilock := 0, iunlock := 0, lockSlow := 0, unlockSlow := 0, disable := 59, enable := 62, acquire := 79, relMerge := 58, cas32 := 0, add32 := 80, tMutex := 75, tIMutex := 73, tPMutex := 109, tPIMutex := 0, tPI32 := 131, tUP := 108, tNoCopy := 71, tU32 := 50, rlock := 56, runlock := 40, wlock := 102, wunlock := 0, i32add := 60, raceRead := 57, release := 0, rUnlockSlow := 61, semacqR := 78, semacqW := 0, semrel := 82, sfatal := 81, tRW := 80, tPRW := 106, tAI32 := 78, tPAI32 := 129, tPU32 := 110, tANoCopy := 76 }
theorem rwCore : Go.Conc.Locks.RwCore Tryd.prog rwLink :=
  ⟨Tryd.func60, Tryd.func57, Tryd.func59, Tryd.func62, Tryd.func79, Tryd.func58, Tryd.func80, Tryd.underlying80, Tryd.runUnderlying80, Tryd.sizeOf80, Tryd.isAgg80, Tryd.zeroValue80, Tryd.underlying78, Tryd.runUnderlying78, Tryd.sizeOf78, Tryd.isAgg78, Tryd.zeroValue78, Tryd.underlying106, Tryd.runUnderlying106, Tryd.sizeOf106, Tryd.isAgg106, Tryd.zeroValue106, Tryd.underlying129, Tryd.runUnderlying129, Tryd.sizeOf129, Tryd.isAgg129, Tryd.zeroValue129, Tryd.underlying110, Tryd.runUnderlying110, Tryd.sizeOf110, Tryd.isAgg110, Tryd.zeroValue110, Tryd.underlying76, Tryd.runUnderlying76, Tryd.sizeOf76, Tryd.isAgg76, Tryd.zeroValue76, Tryd.underlying50, Tryd.runUnderlying50, Tryd.sizeOf50, Tryd.isAgg50, Tryd.zeroValue50, Tryd.underlying75, Tryd.runUnderlying75, Tryd.sizeOf75, Tryd.isAgg75, Tryd.zeroValue75, Tryd.underlying109, Tryd.runUnderlying109, Tryd.sizeOf109, Tryd.isAgg109, Tryd.zeroValue109, Tryd.underlying131, Tryd.runUnderlying131, Tryd.sizeOf131, Tryd.isAgg131, Tryd.zeroValue131, Tryd.underlying108, Tryd.runUnderlying108, Tryd.sizeOf108, Tryd.isAgg108, Tryd.zeroValue108, Tryd.underlying21, Tryd.runUnderlying21, Tryd.sizeOf21, Tryd.isAgg21, Tryd.zeroValue21, (by kernel_rfl), (by kernel_rfl)⟩
theorem rwRLib : Go.Conc.Locks.RwRLib Tryd.prog rwLink := ⟨rwCore, Tryd.func56, Tryd.func40⟩
end Go.Proofs.YtgmfiljjogdccaaDoor
namespace Go.Proofs.YtgmfiljjogdccaaDoor
open Go.RowKit Go.RwLone
set_option linter.unusedVariables false
theorem touch_new {w v : World} {g o n : Nat} (h : Touch w v g o n) {b : Nat} (hb : w.heap.size ≤ b) (vs : List Value) (o' : Nat) (hg : g < w.heap.size) : Touch w (v.setCells b o' vs) g o n :=
  ⟨by rw [setCells_os]; exact h.os, by rw [setCells_tape]; exact h.tape, by rw [setCells_output]; exact h.output, by rw [sizeB_setCells]; exact h.size,
    fun k hk hne => by rw [World.heap_setCells_other v b o' vs (by have := h.size; omega) (by omega)]; exact h.block k hk hne,
    fun j hj => by rw [World.cell?_setCells_out b vs o' v ⟨g, j, none⟩ (fun e _ => absurd e (by simp; omega))]; exact h.cell j hj,
    fun o2 n2 ht => World.there_setCells (h.there o2 n2 ht) b o' vs⟩
theorem KeyAt.touch {w w' : World} {g nr : Nat} {K : Nat → Nat} (h : KeyAt w g nr K) (ht : Touch w w' g 4 1) (hc : w'.cell? ⟨g, 4, none⟩ = some (.int .i32 0)) : KeyAt w' g nr K := by
  refine ⟨⟨(ht.cell 6 (by omega)).trans h.ciph.rounds, fun i hi => (ht.cell (6 + 1 + i) (by omega)).trans (h.ciph.words i hi), h.ciph.small, ⟨fun b hb => (ht.cell _ (by omega)).trans (h.ciph.tab.s b hb), fun b hb => (ht.cell _ (by omega)).trans (h.ciph.tab.u b hb), fun b hb => (ht.cell _ (by omega)).trans (h.ciph.tab.m b hb), fun b hb => (ht.cell _ (by omega)).trans (h.ciph.tab.n b hb)⟩, Nat.lt_of_lt_of_le h.ciph.here ht.size, h.ciph.some, h.ciph.most⟩, hc, ht.there _ _ h.room⟩
/-- While a call holds the key. -/
theorem held_ciph {w : World} {g nr : Nat} {K : Nat → Nat} (h : KeyAt w g nr K) (c : Int) : Ciph (w.setCell ⟨g, 4, none⟩ (.int .i32 c)) g 6 nr K := by
  have ht : Touch w (w.setCell ⟨g, 4, none⟩ (.int .i32 c)) g 4 1 := (Touch.refl w g 4 1).setCell 4 _ (by omega) (by omega)
  exact ⟨(ht.cell 6 (by omega)).trans h.ciph.rounds, fun i hi => (ht.cell (6 + 1 + i) (by omega)).trans (h.ciph.words i hi), h.ciph.small, ⟨fun b hb => (ht.cell _ (by omega)).trans (h.ciph.tab.s b hb), fun b hb => (ht.cell _ (by omega)).trans (h.ciph.tab.u b hb), fun b hb => (ht.cell _ (by omega)).trans (h.ciph.tab.m b hb), fun b hb => (ht.cell _ (by omega)).trans (h.ciph.tab.n b hb)⟩, Nat.lt_of_lt_of_le h.ciph.here ht.size, h.ciph.some, h.ciph.most⟩
theorem cell_of_there {w : World} {g o n : Nat} (h : w.there g o n) (j : Nat) (hj : j < n) : ∃ v, w.cell? ⟨g, o + j, none⟩ = some v := Option.isSome_iff_exists.1 (h j hj).1
set_option maxHeartbeats 1600000 in
set_option maxRecDepth 100000 in
theorem hold_ok (g nr : Nat) (K : Nat → Nat) (w : World) (h : KeyAt w g nr K) : Calls Tryd.prog 39 #[.pointer (some ⟨g, 0, none⟩)] w fun e w' => e = .returned (.int .i64 0) ∧ w' = w.setCell ⟨g, 4, none⟩ (.int .i32 1) := by
  obtain ⟨x0, c0⟩ := cell_of_there h.room 0 (by decide)
  obtain ⟨x3, c3⟩ := cell_of_there h.room 3 (by decide)
  have hz := (h.room 4 (by decide)).2
  have hc := h.count
  have KL : Hid (Calls Tryd.prog 56 #[.pointer (some ⟨g, 0, none⟩)] w fun e w' => e = .returned (.tuple #[]) ∧ w' = w.setCell ⟨g, 4, none⟩ (.int .i32 1))  := by
    have h := rlock_open rwRLib g 0 0 x0 x3 w c0 c3 hc hz (by decide +kernel)
    rw [show wrap32 (0 + 1) = 1 by decide +kernel] at h
    exact h
  have cr : (w.setCell ⟨g, 4, none⟩ (.int .i32 1)).cell? ⟨g, 6, none⟩ = some (.int .i64 (nr : Nat)) := (held_ciph h 1).rounds
  have hn : (((nr : Nat) : Int) == 0) = false := by have := h.ciph.some; simp; omega
  clear c0 c3 hz hc h
  go_enter Tryd.func39, Tryd.ntmps39
  go_wp2_with (first | (go_at_call 56; refine KL.out.mono ?_))
  rintro e1 w1 ⟨rfl, hw1⟩
  obtain rfl := hw1.symm
  go_wp2
  go_ret
  exact ⟨rfl, rfl⟩
theorem hold_nil (w : World) : Calls Tryd.prog 39 #[.pointer none] w fun e w' => e = .returned (.int .i64 1) ∧ w' = w := by
  go_enter Tryd.func39, Tryd.ntmps39
  go_wp2
  go_ret
  exact ⟨rfl, rfl⟩
end Go.Proofs.YtgmfiljjogdccaaDoor
namespace Go.Proofs.YtgmfiljjogdccaaDoor
open Go.RowKit Go.RwLone
set_option linter.unusedVariables false
/-- The key is let go. -/
theorem unlocked {w w3 : World} {g nr : Nat} {K : Nat → Nat} (hk : KeyAt w g nr K) (ht : Touch w w3 g 4 1) (hc : w3.cell? ⟨g, 4, none⟩ = some (.int .i32 1)) :
    CallsD Tryd.prog 40 #[.pointer (some ⟨g, 0, none⟩)] .returning w3 fun e u' w' => u' = .returning ∧ e = .returned (.tuple #[]) ∧ KeyAt w' g nr K ∧ Touch w w' g 4 1 ∧ w' = w3.setCells g 4 [.int .i32 0] := by
  have hroom : w3.there g 0 1091 := ht.there _ _ hk.room
  obtain ⟨x0, c0⟩ := cell_of_there hroom 0 (by decide)
  obtain ⟨x2, c2⟩ := cell_of_there hroom 2 (by decide)
  have hz := (hroom 4 (by decide)).2
  refine (runlock_deferred rwRLib g 0 1 x0 x2 .returning w3 c0 c2 hc hz (by decide +kernel)).mono ?_
  rintro e u' w' ⟨rfl, rfl, hw⟩
  rw [show wrap32 (1 + -1) = 0 by decide +kernel] at hw
  have hw' : w' = w3.setCells g 4 [.int .i32 0] := hw
  have ht' : Touch w w' g 4 1 := by rw [hw']; exact ht.setCells 4 _ (by omega) (by simp)
  have hc' : w'.cell? ⟨g, 4, none⟩ = some (.int .i32 0) := by
    rw [hw]
    exact World.cell?_setCell_same' _ _ _ (by rw [show (0 + 4) = 4 from rfl, hc]; rfl)
  exact ⟨rfl, rfl, hk.touch ht' hc', ht', hw'⟩
theorem held {w w1 : World} {g nr : Nat} {K : Nat → Nat} (h : KeyAt w g nr K) (hw : w1 = w.setCell ⟨g, 4, none⟩ (.int .i32 1)) : Ciph w1 g 6 nr K ∧ Touch w w1 g 4 1 ∧ w1.cell? ⟨g, 4, none⟩ = some (.int .i32 1) := by
  rw [hw]
  refine ⟨held_ciph h 1, (Touch.refl _ g 4 1).setCell 4 _ (by omega) (by omega), ?_⟩
  have := (h.room 4 (by decide)).1
  exact World.cell?_setCell_same' _ _ _ (by simpa using this)
set_option maxHeartbeats 1600000 in
set_option maxRecDepth 100000 in
theorem size_ok (g nr : Nat) (K : Nat → Nat) (w : World) (h : KeyAt w g nr K) (h6 : 6 ≤ nr) : Calls Tryd.prog 13 #[.pointer (some ⟨g, 0, none⟩)] w fun e w' => e = .returned (.int .i64 (4 * (nr - 6) : Nat)) ∧ KeyAt w' g nr K ∧ Touch w w' g 4 1 := by
  have HK : Hid (KeyAt w g nr K) := h
  have HH : Hid (Calls Tryd.prog 39 #[.pointer (some ⟨g, 0, none⟩)] w fun e w' => e = .returned (.int .i64 0) ∧ w' = w.setCell ⟨g, 4, none⟩ (.int .i32 1)) := hold_ok g nr K w h
  have h14 := h.ciph.most
  clear h
  go_enter_defers Tryd.func13, Tryd.ntmps13
  go_wp2_with (first | (go_at_call 39; refine HH.out.mono ?_))
  rintro e1 w1 ⟨rfl, hw1⟩
  have H1 : Hid (Ciph w1 g 6 nr K ∧ Touch w w1 g 4 1 ∧ w1.cell? ⟨g, 4, none⟩ = some (.int .i32 1)) := held HK.out hw1
  clear hw1 HH
  have cr : w1.cell? ⟨g, 6, none⟩ = some (.int .i64 (nr : Nat)) := H1.out.1.rounds
  go_wp2_with fail
  refine leaves_cons (f := 40) (args := #[.pointer (some ⟨g, 0, none⟩)]) (by simp) (by simp [go_sem]) ?_
  refine (unlocked HK.out H1.out.2.1 H1.out.2.2).mono ?_
  rintro e5 u5 w5 ⟨rfl, rfl, hk5, ht5, _⟩
  refine ⟨_, results_tmp rfl _ _ _, ?_, hk5, ht5⟩
  show Ending.returned (.int .i64 (4 * ((nr : Int) - 6))) = _
  exact ret_int (by omega)
set_option maxHeartbeats 1600000 in
set_option maxRecDepth 100000 in
theorem rounds_ok (g nr : Nat) (K : Nat → Nat) (w : World) (h : KeyAt w g nr K) : Calls Tryd.prog 14 #[.pointer (some ⟨g, 0, none⟩)] w fun e w' => e = .returned (.int .i64 (nr : Nat)) ∧ KeyAt w' g nr K ∧ Touch w w' g 4 1 := by
  have HK : Hid (KeyAt w g nr K) := h
  have HH : Hid (Calls Tryd.prog 39 #[.pointer (some ⟨g, 0, none⟩)] w fun e w' => e = .returned (.int .i64 0) ∧ w' = w.setCell ⟨g, 4, none⟩ (.int .i32 1)) := hold_ok g nr K w h
  clear h
  go_enter_defers Tryd.func14, Tryd.ntmps14
  go_wp2_with (first | (go_at_call 39; refine HH.out.mono ?_))
  rintro e1 w1 ⟨rfl, hw1⟩
  have H1 : Hid (Ciph w1 g 6 nr K ∧ Touch w w1 g 4 1 ∧ w1.cell? ⟨g, 4, none⟩ = some (.int .i32 1)) := held HK.out hw1
  clear hw1 HH
  have cr : w1.cell? ⟨g, 6, none⟩ = some (.int .i64 (nr : Nat)) := H1.out.1.rounds
  go_wp2_with fail
  refine leaves_cons (f := 40) (args := #[.pointer (some ⟨g, 0, none⟩)]) (by simp) (by simp [go_sem]) ?_
  refine (unlocked HK.out H1.out.2.1 H1.out.2.2).mono ?_
  rintro e5 u5 w5 ⟨rfl, rfl, hk5, ht5, _⟩
  exact ⟨_, results_tmp rfl _ _ _, rfl, hk5, ht5⟩
end Go.Proofs.YtgmfiljjogdccaaDoor
namespace Go.Proofs.YtgmfiljjogdccaaDoor
open Go.RowKit
set_option linter.unusedVariables false
theorem ret_array_tmp {P : Program} {fn : Func} {p t : Tmp} {ty : TypeId} {d : TypeDesc} {Q : Ending → World → Prop} {tmps : Array Value} {w : World} {b : Nat} (cs : List Value) (x : Value) (h : fn.results = #[.cell p ty, .tmp t])
    (hp : tmps.getD p undef = .pointer (some ⟨b, 0, none⟩)) (ht : tmps.getD t undef = x) (hr : w.rangeAt b 0 cs) (hu : P.underlying ty = some d) (hd : d.isRow = true) (hi : (P.info? ty).map (·.size) = some cs.length)
    (hq : Q (.returned (.tuple #[.agg cs.toArray, x])) w) : bodyPost P fn Q .ret ⟨tmps, []⟩ w := by
  refine bodyPost_ret (v := .tuple #[.agg cs.toArray, x]) ?_ rfl hq
  rw [results_cell_tmp h]
  have hl := run_loadVar_mid (P := P) w b 0 ty cs d hr hu hd hi
  simp [hp, ht, asAddr, hl]
set_option maxHeartbeats 1600000 in
set_option maxRecDepth 100000 in
theorem kenc_nil (f : Nat → Nat) (w : World) : Calls Tryd.prog 21 #[.pointer none, .agg (arA f)] w fun e w' => e = .returned (.tuple #[.agg z16, .int .i64 1]) ∧ Below w.heap.size w w' := by
  have K1 : Hid (∀ u, Calls Tryd.prog 39 #[.pointer none] u fun e w' => e = .returned (.int .i64 1) ∧ w' = u) := hold_nil
  have HI : Hid (Below w.heap.size w _ ∧ Ar _ w.heap.size f ∧ Ar _ (w.heap.size + 1) zero8) := ar_two w f 42 42
  unfold arA z16 at HI
  unfold arA z16
  go_enter Tryd.func21, Tryd.ntmps21
  go_upto_region 1 with fail
  generalize ((w.alloc (.cells #[.int .u8 (f 0 : Nat), .int .u8 (f 1 : Nat), .int .u8 (f 2 : Nat), .int .u8 (f 3 : Nat), .int .u8 (f 4 : Nat), .int .u8 (f 5 : Nat), .int .u8 (f 6 : Nat), .int .u8 (f 7 : Nat), .int .u8 (f 8 : Nat), .int .u8 (f 9 : Nat), .int .u8 (f 10 : Nat), .int .u8 (f 11 : Nat), .int .u8 (f 12 : Nat), .int .u8 (f 13 : Nat), .int .u8 (f 14 : Nat), .int .u8 (f 15 : Nat)] 42)).alloc (.cells #[.int .u8 0, .int .u8 0, .int .u8 0, .int .u8 0, .int .u8 0, .int .u8 0, .int .u8 0, .int .u8 0, .int .u8 0, .int .u8 0, .int .u8 0, .int .u8 0, .int .u8 0, .int .u8 0, .int .u8 0, .int .u8 0] 42)) = w2 at HI ⊢
  go_wp2_with (first | (go_at_call 39; (refine (K1.out _).mono ?_); (rintro e2 w2 ⟨rfl, hw2⟩; obtain rfl := hw2.symm)) | (refine wpList_store_mid (by rfl) 42 (.tmp 4) (.tmp 11) (by rfl) (w.heap.size + 1) 0 #[.int .u8 0, .int .u8 0, .int .u8 0, .int .u8 0, .int .u8 0, .int .u8 0, .int .u8 0, .int .u8 0, .int .u8 0, .int .u8 0, .int .u8 0, .int .u8 0, .int .u8 0, .int .u8 0, .int .u8 0, .int .u8 0] (by rfl) (by rfl) HI.out.2.2.t size42 (by kernel_rfl) ?_))
  refine ret_array_tmp (#[.int .u8 0, .int .u8 0, .int .u8 0, .int .u8 0, .int .u8 0, .int .u8 0, .int .u8 0, .int .u8 0, .int .u8 0, .int .u8 0, .int .u8 0, .int .u8 0, .int .u8 0, .int .u8 0, .int .u8 0, .int .u8 0]).toList (.int .i64 1) Tryd.results21 rfl rfl ?_ Tryd.underlying42 rfl size42 ⟨rfl, ?_⟩
  · exact World.rangeAt_setCells_same _ _ _ _ HI.out.2.2.t
  · exact belowB_setCells _ (Nat.le_succ _) _ _ _ HI.out.1
set_option maxHeartbeats 1600000 in
set_option maxRecDepth 100000 in
theorem kdec_nil (f : Nat → Nat) (w : World) : Calls Tryd.prog 22 #[.pointer none, .agg (arA f)] w fun e w' => e = .returned (.tuple #[.agg z16, .int .i64 1]) ∧ Below w.heap.size w w' := by
  have K1 : Hid (∀ u, Calls Tryd.prog 39 #[.pointer none] u fun e w' => e = .returned (.int .i64 1) ∧ w' = u) := hold_nil
  have HI : Hid (Below w.heap.size w _ ∧ Ar _ w.heap.size f ∧ Ar _ (w.heap.size + 1) zero8) := ar_two w f 42 42
  unfold arA z16 at HI
  unfold arA z16
  go_enter Tryd.func22, Tryd.ntmps22
  go_upto_region 1 with fail
  generalize ((w.alloc (.cells #[.int .u8 (f 0 : Nat), .int .u8 (f 1 : Nat), .int .u8 (f 2 : Nat), .int .u8 (f 3 : Nat), .int .u8 (f 4 : Nat), .int .u8 (f 5 : Nat), .int .u8 (f 6 : Nat), .int .u8 (f 7 : Nat), .int .u8 (f 8 : Nat), .int .u8 (f 9 : Nat), .int .u8 (f 10 : Nat), .int .u8 (f 11 : Nat), .int .u8 (f 12 : Nat), .int .u8 (f 13 : Nat), .int .u8 (f 14 : Nat), .int .u8 (f 15 : Nat)] 42)).alloc (.cells #[.int .u8 0, .int .u8 0, .int .u8 0, .int .u8 0, .int .u8 0, .int .u8 0, .int .u8 0, .int .u8 0, .int .u8 0, .int .u8 0, .int .u8 0, .int .u8 0, .int .u8 0, .int .u8 0, .int .u8 0, .int .u8 0] 42)) = w2 at HI ⊢
  go_wp2_with (first | (go_at_call 39; (refine (K1.out _).mono ?_); (rintro e2 w2 ⟨rfl, hw2⟩; obtain rfl := hw2.symm)) | (refine wpList_store_mid (by rfl) 42 (.tmp 4) (.tmp 11) (by rfl) (w.heap.size + 1) 0 #[.int .u8 0, .int .u8 0, .int .u8 0, .int .u8 0, .int .u8 0, .int .u8 0, .int .u8 0, .int .u8 0, .int .u8 0, .int .u8 0, .int .u8 0, .int .u8 0, .int .u8 0, .int .u8 0, .int .u8 0, .int .u8 0] (by rfl) (by rfl) HI.out.2.2.t size42 (by kernel_rfl) ?_))
  refine ret_array_tmp (#[.int .u8 0, .int .u8 0, .int .u8 0, .int .u8 0, .int .u8 0, .int .u8 0, .int .u8 0, .int .u8 0, .int .u8 0, .int .u8 0, .int .u8 0, .int .u8 0, .int .u8 0, .int .u8 0, .int .u8 0, .int .u8 0]).toList (.int .i64 1) Tryd.results22 rfl rfl ?_ Tryd.underlying42 rfl size42 ⟨rfl, ?_⟩
  · exact World.rangeAt_setCells_same _ _ _ _ HI.out.2.2.t
  · exact belowB_setCells _ (Nat.le_succ _) _ _ _ HI.out.1
end Go.Proofs.YtgmfiljjogdccaaDoor
namespace Go.Proofs.YtgmfiljjogdccaaDoor
open Go.RowKit
set_option linter.unusedVariables false
/-- The reference's key while its round keys are laid one behind the other. -/
structure RkI (w : World) (g n gb cb gr c m : Nat) (K : Nat → Nat) (v : World) : Prop where
  t : RkT w g 256 v
  b : v.cell? ⟨g, 0, none⟩ = some (.slice (some ⟨gb, 0, none⟩) n cb)
  r : v.cell? ⟨g, 1, none⟩ = some (.slice (some ⟨gr, 0, none⟩) m c)
  o : v.ownsRow (g + 1) 5 1 (.slice (some ⟨gr, 0, none⟩) m c) m (rbL K m)
theorem RkI.gr_lt {w v : World} {g n gb cb gr c m : Nat} {K : Nat → Nat} (h : RkI w g n gb cb gr c m K v) : g < gr ∧ gr < v.heap.size := by
  have := h.o.lt gr rfl
  exact ⟨by omega, this.2⟩
theorem RkI.cell {w v : World} {g n gb cb gr c m : Nat} {K : Nat → Nat} (h : RkI w g n gb cb gr c m K v) (j : Nat) (hj : j < m) : v.cell? ⟨gr, j, none⟩ = some (.int .u8 (rb K j : Nat)) := by
  rw [h.o.cellAt j (by omega)]
  exact rbL_at K m j hj
theorem RkI.below {w v v' : World} {g n gb cb gr c m : Nat} {K : Nat → Nat} (h : RkI w g n gb cb gr c m K v) (hb : Below v.heap.size v v') : RkI w g n gb cb gr c m K v' :=
  ⟨h.t.keep (hb.block g h.t.lt) (h.t.old.trans (hb.mono (Nat.le_of_lt h.t.lt))) hb.size, (hb.cell (p := ⟨g, 0, none⟩) h.t.lt).trans h.b, (hb.cell (p := ⟨g, 1, none⟩) h.t.lt).trans h.r,
   h.o.kept (row := none) ⟨hb.os, hb.tape, hb.output, hb.size, fun k hk _ => hb.block k hk⟩ (by simp [Value.ownBlock])⟩
theorem RkI.app {w v v1 v2 : World} {g n gb cb gr c m g' c' : Nat} {K : Nat → Nat} {x : Value} (h : RkI w g n gb cb gr c m K v) (hb : Below v.heap.size v v1) (hx : x = .int .u8 (rb K m : Nat)) (ho : v2.ownsRow (g + 1) 5 1 (.slice (some ⟨g', 0, none⟩) (m + 1) c') (m + 1) (rbL K m ++ [x])) (hg : v1.grownBy v2 (some gr)) :
    RkI w g n gb cb g' c' (m + 1) K (v2.setCell ⟨g, 1, none⟩ (.slice (some ⟨g', 0, none⟩) (m + 1) c')) := by
  have h1 := h.below hb
  have hne : some g ≠ some gr := by have := h.gr_lt; simp; omega
  have hgb := hg.block g h1.t.lt hne
  have ht : RkT w g 256 v2 := h1.t.keep hgb (h1.t.old.grown hg (Nat.le_of_lt h1.t.lt) (by intro q hq; have := h.gr_lt; simp at hq; omega)) hg.size
  refine ⟨ht.set 1 _ (by omega), (cell_other _ _ _ _ _ (by omega)).trans ((World.cell?_of_block (a := ⟨g, 0, none⟩) hgb).trans h1.b), set_same _ ht.room (by omega), own_set ?_ (Nat.lt_succ_self g)⟩
  rw [rbL_succ, ← hx]
  exact ho
/-- Four bytes at tb. -/
structure Tr (v : World) (tb : Nat) (f : Nat → Nat) : Prop where
  lt : tb < v.heap.size
  c : ∀ j, j < 4 → v.cell? ⟨tb, j, none⟩ = some (.int .u8 (f j : Nat))
theorem Tr.below {v v' : World} {tb : Nat} {f : Nat → Nat} (h : Tr v tb f) (hb : Below v.heap.size v v') : Tr v' tb f :=
  ⟨Nat.lt_of_lt_of_le h.lt hb.size, fun j hj => (hb.cell (p := ⟨tb, j, none⟩) h.lt).trans (h.c j hj)⟩
theorem Tr.new (v : World) (a b c d : Nat) : Tr (v.alloc (.cells #[.int .u8 (a : Nat), .int .u8 (b : Nat), .int .u8 (c : Nat), .int .u8 (d : Nat)] 5)) v.heap.size (fun j => if j = 0 then a else if j = 1 then b else if j = 2 then c else d) := by
  refine ⟨by simp, fun j hj => ?_⟩
  rw [World.cell?_alloc_at _ 5 _ _ rfl]
  have hm : j = 0 ∨ j = 1 ∨ j = 2 ∨ j = 3 := by omega
  rcases hm with rfl | rfl | rfl | rfl <;> rfl
theorem Tr.congr {v : World} {tb : Nat} {f f' : Nat → Nat} (h : Tr v tb f) (e : ∀ j, j < 4 → f j = f' j) : Tr v tb f' := ⟨h.lt, fun j hj => by rw [← e j hj]; exact h.c j hj⟩
theorem Tr.app {v v1 v2 : World} {tb gr g : Nat} {f : Nat → Nat} {x : Value} (h : Tr v tb f) (hb : Below v.heap.size v v1) (hg : v1.grownBy v2 (some gr)) (hne : gr ≠ tb) (hg2 : g ≠ tb) : Tr (v2.setCell ⟨g, 1, none⟩ x) tb f := by
  have h1 := h.below hb
  refine ⟨by have := Nat.lt_of_lt_of_le h1.lt hg.size; simpa [World.setCell] using this, fun j hj => ?_⟩
  rw [World.cell?_setCell_far _ _ _ _ (by exact hg2)]
  exact (World.cell?_of_block (a := ⟨tb, j, none⟩) (hg.block tb h1.lt (by simp; omega))).trans (h1.c j hj)
end Go.Proofs.YtgmfiljjogdccaaDoor
