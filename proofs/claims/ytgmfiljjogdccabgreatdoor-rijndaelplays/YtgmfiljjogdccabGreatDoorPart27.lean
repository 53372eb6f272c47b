import Derived.Test.YtgmfiljjogdccabGreatDoorBkd
import Derived.Test.YtgmfiljjogdccabGreatDoorPart14
import Derived.Laws.ResultCell
import Derived.Test.YtgmfiljjogdccabGreatDoorPart00
import Derived.Test.YtgmfiljjogdccabGreatDoorPart02
import Derived.Test.YtgmfiljjogdccabGreatDoorPart07
import Derived.Test.YtgmfiljjogdccabGreatDoorXor
import Derived.Test.YtgmfiljjogdccabGreatDoorPart06
import Derived.Lib.SliceRun
namespace Go.Proofs.YtgmfiljjogdccabGreatDoor
open Go.RowKit
set_option linter.unusedVariables false
theorem ret_array_tmp {P : Program} {fn : Func} {p t : Tmp} {ty : TypeId} {d : TypeDesc} {Q : Ending → World → Prop} {tmps : Array Value} {w : World} {b : Nat} (cs : List Value) (x : Value) (h : fn.results = #[.cell p ty, .tmp t])
  (hp : tmps.getD p undef = .pointer (some ⟨b, 0, none⟩)) (ht : tmps.getD t undef = x) (hr : w.rangeAt b 0 cs) (hu : P.underlying ty = some d) (hd : d.isRow = true) (hi : (P.info? ty).map (·.size) = some cs.length)
  (hq : Q (.returned (.tuple #[.agg cs.toArray, x])) w) : bodyPost P fn Q .ret ⟨tmps, []⟩ w := by
 refine bodyPost_ret (v := .tuple #[.agg cs.toArray, x]) ?_ rfl hq
 rw [results_cell_tmp h]
 have hl := run_loadVar_mid (P := P) w b 0 ty cs d hr hu hd hi
 simp [hp, ht, asAddr, hl]
set_option maxHeartbeats 1600000 in
set_option maxRecDepth 100000 in
theorem kenc_nil (f : Nat → Nat) (w : World) : Calls Tryz.prog 21 #[.pointer none, .agg (arA f)] w fun e w' => e = .returned (.tuple #[.agg z16, .int .i64 1]) ∧ Below w.heap.size w w' := by
 have K1 : Hid (∀ u, Calls Tryz.prog 41 #[.pointer none] u fun e w' => e = .returned (.int .i64 1) ∧ w' = u) := hold_nil
 have HI : Hid (Below w.heap.size w _ ∧ Ar _ w.heap.size f ∧ Ar _ (w.heap.size + 1) zero8) := ar_two w f 38 38
 unfold arA z16 at HI
 unfold arA z16
 go_enter Tryz.func21, Tryz.ntmps21
 go_upto_region 1 with fail
 generalize ((w.alloc (.cells #[.int .u8 (f 0 : Nat), .int .u8 (f 1 : Nat), .int .u8 (f 2 : Nat), .int .u8 (f 3 : Nat), .int .u8 (f 4 : Nat), .int .u8 (f 5 : Nat), .int .u8 (f 6 : Nat), .int .u8 (f 7 : Nat), .int .u8 (f 8 : Nat), .int .u8 (f 9 : Nat), .int .u8 (f 10 : Nat), .int .u8 (f 11 : Nat), .int .u8 (f 12 : Nat), .int .u8 (f 13 : Nat), .int .u8 (f 14 : Nat), .int .u8 (f 15 : Nat)] 38)).alloc (.cells #[.int .u8 0, .int .u8 0, .int .u8 0, .int .u8 0, .int .u8 0, .int .u8 0, .int .u8 0, .int .u8 0, .int .u8 0, .int .u8 0, .int .u8 0, .int .u8 0, .int .u8 0, .int .u8 0, .int .u8 0, .int .u8 0] 38)) = w2 at HI ⊢
 go_wp2_with (first | (go_at_call 41; (refine (K1.out _).mono ?_); (rintro e2 w2 ⟨rfl, hw2⟩; obtain rfl := hw2.symm)) | (refine wpList_store_mid (by rfl) 38 (.tmp 4) (.tmp 11) (by rfl) (w.heap.size + 1) 0 #[.int .u8 0, .int .u8 0, .int .u8 0, .int .u8 0, .int .u8 0, .int .u8 0, .int .u8 0, .int .u8 0, .int .u8 0, .int .u8 0, .int .u8 0, .int .u8 0, .int .u8 0, .int .u8 0, .int .u8 0, .int .u8 0] (by rfl) (by rfl) HI.out.2.2.t size42 (by kernel_rfl) ?_))
 refine ret_array_tmp (#[.int .u8 0, .int .u8 0, .int .u8 0, .int .u8 0, .int .u8 0, .int .u8 0, .int .u8 0, .int .u8 0, .int .u8 0, .int .u8 0, .int .u8 0, .int .u8 0, .int .u8 0, .int .u8 0, .int .u8 0, .int .u8 0]).toList (.int .i64 1) Tryz.results21 rfl rfl ?_ Tryz.underlying38 rfl size42 ⟨rfl, ?_⟩
 ·exact World.rangeAt_setCells_same _ _ _ _ HI.out.2.2.t
 ·exact belowB_setCells _ (Nat.le_succ _) _ _ _ HI.out.1
set_option maxHeartbeats 1600000 in
set_option maxRecDepth 100000 in
theorem kdec_nil (f : Nat → Nat) (w : World) : Calls Tryz.prog 22 #[.pointer none, .agg (arA f)] w fun e w' => e = .returned (.tuple #[.agg z16, .int .i64 1]) ∧ Below w.heap.size w w' := by
 have K1 : Hid (∀ u, Calls Tryz.prog 41 #[.pointer none] u fun e w' => e = .returned (.int .i64 1) ∧ w' = u) := hold_nil
 have HI : Hid (Below w.heap.size w _ ∧ Ar _ w.heap.size f ∧ Ar _ (w.heap.size + 1) zero8) := ar_two w f 38 38
 unfold arA z16 at HI
 unfold arA z16
 go_enter Tryz.func22, Tryz.ntmps22
 go_upto_region 1 with fail
 generalize ((w.alloc (.cells #[.int .u8 (f 0 : Nat), .int .u8 (f 1 : Nat), .int .u8 (f 2 : Nat), .int .u8 (f 3 : Nat), .int .u8 (f 4 : Nat), .int .u8 (f 5 : Nat), .int .u8 (f 6 : Nat), .int .u8 (f 7 : Nat), .int .u8 (f 8 : Nat), .int .u8 (f 9 : Nat), .int .u8 (f 10 : Nat), .int .u8 (f 11 : Nat), .int .u8 (f 12 : Nat), .int .u8 (f 13 : Nat), .int .u8 (f 14 : Nat), .int .u8 (f 15 : Nat)] 38)).alloc (.cells #[.int .u8 0, .int .u8 0, .int .u8 0, .int .u8 0, .int .u8 0, .int .u8 0, .int .u8 0, .int .u8 0, .int .u8 0, .int .u8 0, .int .u8 0, .int .u8 0, .int .u8 0, .int .u8 0, .int .u8 0, .int .u8 0] 38)) = w2 at HI ⊢
 go_wp2_with (first | (go_at_call 41; (refine (K1.out _).mono ?_); (rintro e2 w2 ⟨rfl, hw2⟩; obtain rfl := hw2.symm)) | (refine wpList_store_mid (by rfl) 38 (.tmp 4) (.tmp 11) (by rfl) (w.heap.size + 1) 0 #[.int .u8 0, .int .u8 0, .int .u8 0, .int .u8 0, .int .u8 0, .int .u8 0, .int .u8 0, .int .u8 0, .int .u8 0, .int .u8 0, .int .u8 0, .int .u8 0, .int .u8 0, .int .u8 0, .int .u8 0, .int .u8 0] (by rfl) (by rfl) HI.out.2.2.t size42 (by kernel_rfl) ?_))
 refine ret_array_tmp (#[.int .u8 0, .int .u8 0, .int .u8 0, .int .u8 0, .int .u8 0, .int .u8 0, .int .u8 0, .int .u8 0, .int .u8 0, .int .u8 0, .int .u8 0, .int .u8 0, .int .u8 0, .int .u8 0, .int .u8 0, .int .u8 0]).toList (.int .i64 1) Tryz.results22 rfl rfl ?_ Tryz.underlying38 rfl size42 ⟨rfl, ?_⟩
 ·exact World.rangeAt_setCells_same _ _ _ _ HI.out.2.2.t
 ·exact belowB_setCells _ (Nat.le_succ _) _ _ _ HI.out.1
end Go.Proofs.YtgmfiljjogdccabGreatDoor
namespace Go.Proofs.YtgmfiljjogdccabGreatDoor
open Go.RowKit Go.RwLone
set_option linter.unusedVariables false
set_option linter.unusedSimpArgs false
/-- The words of a key's schedule, as cells. -/
def wordsL (K : Nat → Nat) (m : Nat) : List Value := (List.range m).map fun i => .int .u32 (K i : Nat)
theorem wordsL_one (K : Nat → Nat) (m : Nat) : ∀ u ∈ wordsL K m, u.oneCell' = true := by
 intro u hu
 simp only [wordsL, List.mem_map] at hu
 obtain ⟨i, _, rfl⟩ := hu
 rfl
theorem wordsL_at (K : Nat → Nat) (m i : Nat) (hi : i < m) : (wordsL K m)[i]? = some (.int .u32 (K i : Nat)) := by simp [wordsL, hi]
set_option maxHeartbeats 1600000 in
set_option maxRecDepth 100000 in
theorem words_ok (g nr : Nat) (K : Nat → Nat) (w : World) (h : KeyAt w g nr K) : Calls Tryz.prog 32 #[.pointer (some ⟨g, 0, none⟩)] w fun e w' => ∃ v, e = .returned v ∧ w'.ownsRow w.heap.size 43 1 v (4 * (nr + 1)) (wordsL K (4 * (nr + 1))) ∧ KeyAt w' g nr K ∧ Touch w w' g 4 1 := by
 have HK : Hid (KeyAt w g nr K) := h
 have HH : Hid (Calls Tryz.prog 41 #[.pointer (some ⟨g, 0, none⟩)] w fun e w' => e = .returned (.int .i64 0) ∧ w' = w.setCell ⟨g, 4, none⟩ (.int .i32 1)) := hold_ok g nr K w h
 have h14 := h.ciph.most
 have HG : Hid (g < w.heap.size) := h.ciph.here
 clear h
 obtain ⟨m, HM⟩ : ∃ m, Hid (m = 4 * (nr + 1)) := ⟨_, rfl⟩
 rw [← HM.out]
 have hm60 : m ≤ 60 := by have := HM.out; omega
 have hmi : ((m : Nat) : Int) ≤ 60 := by omega
 go_enter_defers Tryz.func32, Tryz.ntmps32
 go_wp2_with (first | (go_at_call 41; refine HH.out.mono ?_))
 rintro e1 w1 ⟨rfl, hw1⟩
 have H1 : Hid (Ciph w1 g 6 nr K ∧ Touch w w1 g 4 1 ∧ w1.cell? ⟨g, 4, none⟩ = some (.int .i32 1)) := held HK.out hw1
 have HSZ : Hid (w1.heap.size = w.heap.size) := by show _ = _; rw [hw1]; simp
 clear hw1 HH
 have KW : Hid (∀ u, Below w1.heap.size w1 u → Calls Tryz.prog 37 #[.pointer (some ⟨g, 6, none⟩)] u fun e w' => e = .returned (.int .i64 (m : Nat)) ∧ w' = u) := fun u hu => by
  rw [HM.out]
  exact wordCount_ok g 6 nr u ((hu.cell H1.out.1.here).trans H1.out.1.rounds) h14
 have KC : Hid (∀ u, Below w1.heap.size w1 u → Calls Tryz.prog 60 #[.slice (some ⟨g, 7, none⟩) m 60] u fun e w' => ∃ v, e = .returned v ∧ w'.ownsRow u.heap.size 43 1 v m (wordsL K m) ∧ Below u.heap.size u w') := fun u hu => by
  refine clone_ok ⟨g, 7, none⟩ m 60 (wordsL K m) u (by show _ = _; simp [wordsL]) (by omega) (fun j v hv => ?_) (wordsL_one K m)
  have hj : j < m := by have := (List.getElem?_eq_some_iff.1 hv).1; simpa [wordsL] using this
  rw [wordsL_at K m j hj] at hv
  cases hv
  rw [Addr.add_lit, hu.cell (p := ⟨g, 7 + j, none⟩) H1.out.1.here]
  exact H1.out.1.words j (by have := HM.out; omega)
 go_wp2_with fail
 have hS0 : Below w1.heap.size w1 w1.drew := (Below.refl _ _).drew
 refine wp_region_noPanic ?_
 refine wp_region_held_drew (S := fun u => Below w1.heap.size w1 u) (by kernel_rfl) (hS0) (fun _ => ?_)
 refine tG 0 9 (.pointer (some ⟨g, 0, none⟩)) rfl rfl hS0 ?_
 simp only [pU]
 refine tG 1 10 (.pointer (some ⟨g, 0, none⟩)) rfl rfl hS0 ?_
 simp only [pU]
 refine tG 2 11 (.pointer (some ⟨g, 6, none⟩)) rfl rfl hS0 ?_
 simp only [pU]
 refine tG 3 12 (.pointer (some ⟨g, 7, none⟩)) rfl rfl hS0 ?_
 simp only [pU]
 refine tG 4 13 (.pointer (some ⟨g, 0, none⟩)) rfl rfl hS0 ?_
 simp only [pU]
 refine tG 5 14 (.pointer (some ⟨g, 0, none⟩)) rfl rfl hS0 ?_
 simp only [pU]
 refine tG 6 15 (.pointer (some ⟨g, 6, none⟩)) rfl rfl hS0 ?_
 simp only [pU]
 refine wpAnyH_ready (rs := [7]) (by kernel_rfl) (by simp) ?_
 refine AllReadyH.cons rfl (fun K hK => ?_) AllReadyH.nil
 go_simp
 refine (KW.out _ hS0).mono ?_
 rintro e1 w1 ⟨rfl, hw1⟩
 obtain rfl := hw1.symm
 go_wp2_with fail
 refine hK.out _ _ (hS0) (fun _ => ?_)
 clear hK K
 try simp only [pU]
 refine tG 8 17 (.slice (some ⟨g, 7, none⟩) m 60) rfl rfl hS0 ?_
 simp only [pU]
 refine wpAnyH_ready (rs := [9]) (by kernel_rfl) (by simp) ?_
 refine AllReadyH.cons rfl (fun K hK => ?_) AllReadyH.nil
 go_simp
 refine (KC.out _ hS0).mono ?_
 rintro e2 w2 ⟨v, rfl, hown2, hb2⟩
 go_wp2_with fail
 have hS2 : Below w1.heap.size w1 w2 := hS0.trans (hb2.mono (Nat.le_refl _))
 refine hK.out _ _ hS2 (fun _ => ?_)
 clear hK K
 try simp only [pU]
 refine wpAnyH_ready (rs := [10]) (by kernel_rfl) (by simp) ?_
 refine AllReadyH.cons rfl (fun K hK => ?_) AllReadyH.nil
 go_simp
 refine hK.out _ _ hS2 (fun _ => ?_)
 clear hK K
 try simp only [pU]
 refine wpAnyH_done (by kernel_rfl) ?_ _
 refine NoPanic.normal ?_
 have H2 : Hid (w2.ownsRow w.heap.size 43 1 v m (wordsL K m) ∧ Touch w w2 g 4 1 ∧ w2.cell? ⟨g, 4, none⟩ = some (.int .i32 1)) := by
  have hsz : w1.drew.heap.size = w.heap.size := by
   show w1.heap.size = _
   exact HSZ.out
  rw [hsz] at hown2
  exact ⟨hown2, H1.out.2.1.below hS2 HG.out, (hS2.cell H1.out.1.here).trans H1.out.2.2⟩
 clear hown2 hb2 hS2 KW KC hS0
 go_wp2_with fail
 refine leaves_cons (f := 42) (args := #[.pointer (some ⟨g, 0, none⟩)]) (by simp) (by simp [go_sem]) ?_
 refine (unlocked HK.out H2.out.2.1 H2.out.2.2).mono ?_
 rintro e5 u5 w5 ⟨rfl, rfl, hk5, ht5, hw5⟩
 refine ⟨_, results_tmp rfl _ _ _, _, rfl, ?_, hk5, ht5⟩
 refine ownsRow_same H2.out.1 (fun q' hq' => ?_)
 rw [hw5]
 exact ((Touch.refl w2 g 4 1).setCells 4 _ (by omega) (by simp)).block q' (H2.out.1.lt q' hq').2 (by have h1 := (H2.out.1.lt q' hq').1; have h2 := HG.out; omega)
end Go.Proofs.YtgmfiljjogdccabGreatDoor
namespace Go.Proofs.YtgmfiljjogdccabGreatDoor
open Go.RowKit Go.RwLone
set_option linter.unusedVariables false
set_option linter.unusedSimpArgs false
theorem view_lt {w : World} {v : Value} {zs : List Int} (hv : View w v zs) (h0 : zs ≠ []) : ∀ b off l c, v = .slice (some ⟨b, off, none⟩) l c → b < w.heap.size := fun b off l c e => by
 obtain ⟨a, cap, e1, h1, h2, h3, h4⟩ := hv
 rcases h4 with h4 | ⟨b', p', e2, hc⟩
 ·exact absurd h4 h0
 ·rw [e] at e1
  injection e1 with e3 _ _
  rw [e2] at e3
  injection e3 with e3
  injection e3 with e4 _
  have := World.block_lt_of_cell? w _ (hc 0 (by cases zs with | nil => exact absurd rfl h0 | cons _ _ => simp))
  simp at this
  omega
theorem view_sliced {w : World} {a : Option Addr} {n cap : Nat} {zs : List Int} (hv : View w (.slice a n cap) zs) (i j : Nat) (hij : i ≤ j) (hj : j ≤ n) : View w (sliced a i j cap 1) ((zs.drop i).take (j - i)) := by
 obtain ⟨a', c, he, h1, h2, h3, h4⟩ := hv
 injection he with e1 e2 e3
 subst e1 e2 e3
 have hl : ((zs.drop i).take (j - i)).length = j - i := by simp; omega
 refine ⟨if cap = i then a else a.map (·.add (i * 1)), cap - i, by rw [sliced, hl], by omega, by omega, ?_, ?_⟩
 ·intro e
  split at e
  ·omega
  ·have : a = none := by cases a with | none => rfl | some x => cases e
   have := h3 this
   omega
 ·by_cases hz : (zs.drop i).take (j - i) = []
  ·exact .inl hz
  ·right
   have hlt : i < j := by
    by_cases hlt : i < j
    ·exact hlt
    ·exact absurd (by rw [show j - i = 0 by omega, List.take_zero]) hz
   rcases h4 with rfl | ⟨b, off, rfl, hc⟩
   ·simp at hj; omega
   ·refine ⟨b, off + i, ?_, fun k hk => ?_⟩
    ·rw [if_neg (by omega), Option.map_some, Nat.mul_one, Addr.add_mid]
    ·rw [hl] at hk
     rw [Nat.add_assoc, hc (i + k) (by omega)]
     simp [List.getD, List.getElem?_take, hk]
theorem elem22 : Tryz.prog.elem 22 = 5 := by kernel_rfl
theorem und22 : Tryz.prog.underlying 22 = some (.slice (Tryz.prog.elem 22)) := by kernel_rfl
theorem sizeOf5 (w : World) : (Go.sizeOf 5).run Tryz.prog w = .ok 1 w := by kernel_rfl
theorem slice_lh (w : World) (a : Option Addr) (n cap i j : Nat) (hij : i ≤ j) (hj : j ≤ cap) : (Instr.slice 22 (.slice a n cap) (some (.int .i64 i)) (some (.int .i64 j)) none).run Tryz.prog w = .ok (sliced a i j cap 1) w := by
 rw [run_slice_lh w 22 a n cap und22 .i64 .i64 i j (by omega) (by omega) (by omega), elem22, sizeOf5]
 simp [Result.andThen]
theorem slice_h (w : World) (a : Option Addr) (n cap j : Nat) (hj : j ≤ cap) : (Instr.slice 22 (.slice a n cap) none (some (.int .i64 j)) none).run Tryz.prog w = .ok (sliced a 0 j cap 1) w := by
 rw [run_slice_h w 22 a n cap und22 .i64 j (by omega) (by omega), elem22, sizeOf5]
 simp [Result.andThen]
theorem slice_l (w : World) (a : Option Addr) (n cap i : Nat) (hi : i ≤ n) (hn : n ≤ cap) : (Instr.slice 22 (.slice a n cap) (some (.int .i64 i)) none none).run Tryz.prog w = .ok (sliced a i n cap 1) w := by
 rw [run_slice_l w 22 a n cap und22 .i64 i (by omega) (by omega), elem22, sizeOf5]
 simp [Result.andThen]

/-- A list of bytes as numbers. -/
def nat8 (zs : List Int) (i : Nat) : Nat := (zs.getD i 0).toNat
theorem nat8_lt {zs : List Int} (h : AllBytes zs) (i : Nat) : nat8 zs i < 256 := by have := h i; unfold nat8; omega
theorem nat8_eq {zs : List Int} (h : AllBytes zs) (i : Nat) : ((nat8 zs i : Nat) : Int) = zs.getD i 0 := by have := h i; unfold nat8; omega
theorem View.below {w u : World} {v : Value} {zs : List Int} (h : View w v zs) (hb : Below w.heap.size w u) : View u v zs := h.kept hb.block
/-- What is owned can be read. -/
theorem view_owns {w : World} {B n : Nat} {v : Value} {zs : List Int} (h : w.ownsRow B 5 1 v n (cellsU8 zs)) (hn : zs.length = n) : View w v zs := by
 have h0 := h
 rcases h.2 with ⟨rfl, e0⟩ | ⟨g, c, cur, rfl, q1, q2, q3, q4, q5, q6⟩
 ·refine ⟨none, 0, by rw [hn, e0], by omega, by simp [maxLen], fun _ => rfl, Or.inl (List.eq_nil_of_length_eq_zero (by omega))⟩
 ·refine ⟨some ⟨g, 0, none⟩, c, by rw [hn], by omega, q4, (fun e => by cases e), Or.inr ⟨g, 0, rfl, fun i hi => ?_⟩⟩
  have hc := h0.cells (g := g) rfl i (.int .u8 (zs.getD i 0)) (by simp [cellsU8, List.getD, List.getElem?_eq_getElem hi])
  rw [Addr.add_lit] at hc
  exact hc
set_option maxHeartbeats 3200000 in
set_option maxRecDepth 100000 in
theorem xor_zero (t g n nr cap : Nat) (a : Option Addr) (K : Nat → Nat) (s0 : W4) (w : World) (hk : KeyAt w g nr K) (hs : StreamAt w t g s0 n) (hne : t ≠ g) :
  Calls Tryz.prog 13 #[.pointer (some ⟨t, 0, none⟩), .slice a 0 cap] w fun e w' => ∃ v, e = .returned (.tuple #[v, .int .i64 0]) ∧ w'.ownsRow w.heap.size 5 1 v 0 [] ∧ KeyAt w' g nr K ∧ StreamAt w' t g s0 n ∧ Touch2 w w' g t := by
 obtain ⟨i0, hi, hz0, hz1, hz2⟩ := info_parts Tryz.info5
 have HK : Hid (KeyAt w g nr K) := hk
 have HS : Hid (StreamAt w t g s0 n) := hs
 have HNE : Hid (t ≠ g) := hne
 have HG : Hid (g < w.heap.size) := hk.ciph.here
 have HT : Hid (t < w.heap.size) := hs.here
 have HH : Hid (Calls Tryz.prog 41 #[.pointer (some ⟨g, 0, none⟩)] w fun e w' => e = .returned (.int .i64 0) ∧ w' = w.setCell ⟨g, 4, none⟩ (.int .i32 1)) := hold_ok g nr K w hk
 have ck := hs.key
 clear hk hs hne
 go_enter_defers Tryz.func13, Tryz.ntmps13
 go_wp2_with (first | (go_at_call 41; refine HH.out.mono ?_))
 rintro e1 w1 ⟨rfl, hw1⟩
 have H1 : Hid (Ciph w1 g 6 nr K ∧ Touch w w1 g 4 1 ∧ w1.cell? ⟨g, 4, none⟩ = some (.int .i32 1)) := held HK.out hw1
 have HS1 : Hid (StreamAt w1 t g s0 n) := HS.out.touch H1.out.2.1 HNE.out
 have HX1 : Hid (XAt w w1 t g nr K s0 n) := ⟨H1.out.1, H1.out.2.2, H1.out.2.1.there _ _ HK.out.room, HS1.out, H1.out.2.1.left t⟩
 clear hw1 HH ck
 have ck : w1.cell? ⟨t, 0, none⟩ = some (.pointer (some ⟨g, 0, none⟩)) := HS1.out.key
 have KL : Hid (Calls Tryz.prog 43 #[.pointer (some ⟨t, 0, none⟩)] w1 fun e w' => e = .returned (.int .u64 (1099511627776 - n : Nat)) ∧ w' = w1) := left_ok t g n s0 w1 HS1.out
 obtain ⟨lf, HLF⟩ : ∃ x, Hid (x = 1099511627776 - n) := ⟨_, rfl⟩
 rw [← HLF.out] at KL
 go_wp2_with (first
  | (go_at_call 43; refine KL.out.mono ?_; rintro e2 w2 ⟨rfl, hw2⟩; obtain rfl := hw2.symm)
  | (at_make; go_must (refine wpList_make_own _ rfl _ _ 22 rfl w.heap.size 5 i0 (.int .u8 0) 1 Tryz.underlying22 hi hz0 hz1 .i64 .i64 0 0 rfl rfl ?_ ?_ ?_ ?_ ?_)))
 ·rfl
 ·rw [hz2]; omega
 ·unfold maxLen; omega
 ·exact HX1.out.two.size
 intro w3 hown hgrow
 have HX3 : Hid (XAt w w3 t g nr K s0 n) := HX1.out.below ((Below.refl _ _).grown hgrow HX1.out.two.size (by intro k hk; cases hk)) HG.out HT.out
 have HO3 : Hid (w3.ownsRow w.heap.size 5 1 (.slice (some ⟨w1.heap.size, 0, none⟩) 0 0) 0 []) := hown
 clear hgrow ck KL HX1 HS1 H1 hown
 go_wp2
 go_loop [7] (fun v => v = .slice (some ⟨w1.heap.size, 0, none⟩) 0 0) (fun _ => 0)
 case atStart => rfl
 case round =>
  obtain rfl := hrel
  go_wp2
  refine leaves_cons (f := 42) (args := #[.pointer (some ⟨g, 0, none⟩)]) (by simp) (by simp [go_sem]) ?_
  refine (unlock3 HX3.out.ciph HX3.out.cnt HX3.out.room).mono ?_
  rintro e5 u5 w5 ⟨rfl, rfl, hk5, ht5⟩
  refine ⟨_, results_tmp2 rfl _ _ _, _, rfl, ?_, hk5, HX3.out.str.touch ht5 HNE.out, HX3.out.two.trans (ht5.left t)⟩
  refine ownsRow_same HO3.out (fun q' hq' => ?_)
  exact ht5.block q' (HO3.out.lt q' hq').2 (by have h1 := (HO3.out.lt q' hq').1; have h2 := HG.out; omega)
/-- XOR of any list. -/
theorem xor_any (t g n nr : Nat) (K : Nat → Nat) (s0 : W4) (D : Value) (zs : List Int) (w : World) (hk : KeyAt w g nr K) (hs : StreamAt w t g s0 n) (hne : t ≠ g) (hv : View w D zs) (hb : AllBytes zs) (hm : zs.length ≤ 1048576) (hroom : n + zs.length ≤ 1099511627776) (hfar : ∀ x, D.ownBlock = some x → zs ≠ [] → x ≠ g ∧ x ≠ t) :
  Calls Tryz.prog 13 #[.pointer (some ⟨t, 0, none⟩), D] w fun e w' => ∃ v, e = .returned (.tuple #[v, .int .i64 0]) ∧ w'.ownsRow w.heap.size 5 1 v zs.length (cellsU8 (xorL nr K s0 n (nat8 zs) zs.length)) ∧ KeyAt w' g nr K ∧ StreamAt w' t g s0 (n + zs.length) ∧ Touch2 w w' g t := by
 obtain ⟨a, cap, rfl, h1, h2, h3, h4⟩ := hv
 rcases h4 with rfl | ⟨b, off, rfl, hc⟩
 ·refine (xor_zero t g n nr cap a K s0 w hk hs hne).mono ?_
  rintro e w' ⟨v, rfl, ho, q1, q2, q3⟩
  exact ⟨v, rfl, ho, q1, q2, q3⟩
 ·by_cases h0 : zs = []
  ·subst h0
   refine (xor_zero t g n nr cap _ K s0 w hk hs hne).mono ?_
   rintro e w' ⟨v, rfl, ho, q1, q2, q3⟩
   exact ⟨v, rfl, ho, q1, q2, q3⟩
  ·have hpos : 0 < zs.length := List.length_pos_iff.2 h0
   have hbl : b < w.heap.size := World.block_lt_of_cell? w _ (hc 0 hpos)
   obtain ⟨f1, f2⟩ := hfar b rfl h0
   exact xor_ok t g n nr zs.length b off cap K s0 (nat8 zs) w hk hs hne hm hroom hbl f1 f2 h1 (by unfold maxLen at h2; omega) (fun i hi => by rw [hc i hi, nat8_eq hb]) (nat8_lt hb)
theorem xorL_back (nr : Nat) (K : Nat → Nat) (s0 : W4) (n : Nat) {zs : List Int} (hb : AllBytes zs) : xorL nr K s0 n (nat8 (xorL nr K s0 n (nat8 zs) zs.length)) zs.length = zs := by
 refine ext_getD (xorL_length _ _ _ _ _ _) rfl (fun j hj => ?_)
 have e1 : ∀ f : Nat → Nat, (xorL nr K s0 n f zs.length).getD j 0 = ((Nat.xor (f j) (ksb nr K s0 (n + j)) : Nat) : Int) := fun f => by simp [xorL, List.getD, hj]
 rw [e1]
 have e2 : nat8 (xorL nr K s0 n (nat8 zs) zs.length) j = Nat.xor (nat8 zs j) (ksb nr K s0 (n + j)) := by unfold nat8; rw [e1]; rfl
 rw [e2, xor_self_right, nat8_eq hb]
theorem xorL_bytes (nr : Nat) (K : Nat → Nat) (s0 : W4) (n m : Nat) {f : Nat → Nat} (hf : ∀ i, f i < 256) : AllBytes (xorL nr K s0 n f m) := fun i => by
 by_cases hi : i < m
 ·have e1 : (xorL nr K s0 n f m).getD i 0 = ((Nat.xor (f i) (ksb nr K s0 (n + i)) : Nat) : Int) := by simp [xorL, List.getD, hi]
  rw [e1]
  have := Nat.xor_lt_two_pow (n := 8) (hf i) (W4.by_lt (encW nr K (ctrW s0 ((n + i) / 16))) ((n + i) % 16))
  have h2 : Nat.xor (f i) (ksb nr K s0 (n + i)) < 256 := this
  omega
 ·have e1 : (xorL nr K s0 n f m).getD i 0 = 0 := by rw [List.getD_eq_getElem?_getD, List.getElem?_eq_none (by rw [xorL_length]; omega)]; rfl
  rw [e1]; decide
end Go.Proofs.YtgmfiljjogdccabGreatDoor
