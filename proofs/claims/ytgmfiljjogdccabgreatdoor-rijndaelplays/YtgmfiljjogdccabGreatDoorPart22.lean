import Derived.Test.YtgmfiljjogdccabGreatDoorPart16
import Derived.Test.YtgmfiljjogdccabGreatDoorSch
import Derived.Conc.RwLoneW
import Derived.Test.YtgmfiljjogdccabGreatDoorPart00
import Derived.Test.YtgmfiljjogdccabGreatDoorPart14
import Derived.Test.YtgmfiljjogdccabGreatDoorPart08
import Derived.Test.YtgmfiljjogdccabGreatDoorPart09
import Derived.Test.YtgmfiljjogdccabGreatDoorXor
import Derived.Test.YtgmfiljjogdccabGreatDoorPart06
import Derived.Lib.SliceRun
namespace Go.Proofs.YtgmfiljjogdccabGreatDoor
open Go.RowKit Go.RwLone Go.Conc.Locks
set_option linter.unusedVariables false
theorem setCell_at (w : World) (g o j : Nat) (x : Value) (h : j ≠ o) : (w.setCell ⟨g, o, none⟩ x).cell? ⟨g, j, none⟩ = w.cell? ⟨g, j, none⟩ := ((Touch.refl w g o 1).setCell o x (by omega) (by omega)).cell j (by omega)
/-- No writer holds the lock. -/
def Free (w : World) (g : Nat) : Prop := w.cell? ⟨g, 0, none⟩ = some (.int .i32 0)
theorem Free.touch {w v : World} {g : Nat} (h : Free w g) (ht : Touch w v g 4 1) : Free v g := (ht.cell 0 (by omega)).trans h
theorem Free.same {w v : World} {g : Nat} (h : Free w g) (e : v.heap[g]? = w.heap[g]?) : Free v g := (World.cell?_of_block (a := ⟨g, 0, none⟩) e).trans h
theorem wipe_nil (w : World) : Calls Tryz.prog 25 #[.pointer none] w fun e w' => e = .returned (.int .i64 1) ∧ w' = w := by
 go_enter Tryz.func25, Tryz.ntmps25
 go_wp2
 go_ret
 exact ⟨rfl, rfl⟩
/-- The writer lets go. -/
theorem wlet {w3 : World} {g : Nat} (hr : w3.there g 0 1091) (h0 : w3.cell? ⟨g, 0, none⟩ = some (.int .i32 1)) (h4 : w3.cell? ⟨g, 4, none⟩ = some (.int .i32 (-1073741824))) (h6 : w3.cell? ⟨g, 6, none⟩ = some (.int .i64 0)) (hg : g < w3.heap.size) :
  CallsD Tryz.prog 54 #[.pointer (some ⟨g, 0, none⟩)] .returning w3 fun e u' w' => u' = .returning ∧ e = .returned (.tuple #[]) ∧ GoneAt w' g ∧ Free w' g ∧ Fr w3 w' [g] := by
 obtain ⟨x2, c2⟩ := cell_of_there hr 2 (by decide)
 obtain ⟨x3, c3⟩ := cell_of_there hr 3 (by decide)
 have z0 := (hr 0 (by decide)).2
 have z4 := (hr 4 (by decide)).2
 refine (wunlock_deferred rwWLib g 0 x2 x3 .returning w3 h0 c2 c3 h4 z0 z4).mono ?_
 rintro e u' w' ⟨rfl, rfl, hw⟩
 subst hw
 have f1 : Fr w3 (w3.setCell ⟨g, 4, none⟩ (.int .i32 0)) [g] := set_fr _ _ _ _
 have f2 := f1.trans (set_fr (w3.setCell ⟨g, 4, none⟩ (.int .i32 0)) g 0 (.int .i32 0))
 have hr1 : (w3.setCell ⟨g, 4, none⟩ (.int .i32 0)).there g 0 1091 := World.there_setCells hr g 4 [_]
 have hr2 : ((w3.setCell ⟨g, 4, none⟩ (.int .i32 0)).setCell ⟨g, 0, none⟩ (.int .i32 0)).there g 0 1091 := World.there_setCells hr1 g 0 [_]
 refine ⟨rfl, rfl, ⟨hr2, Nat.lt_of_lt_of_le hg f2.size, ?_, ?_⟩, ?_, f2⟩
 ·rw [show (w3.setCell ⟨g, 0 + 4, none⟩ (.int .i32 0)) = w3.setCell ⟨g, 4, none⟩ (.int .i32 0) from rfl]; rw [setCell_at _ _ _ _ _ (by omega)]
  exact World.cell?_setCell_same' _ _ _ (by rw [h4]; rfl)
 ·rw [setCell_at _ _ _ _ _ (by omega), setCell_at _ _ _ _ _ (by omega)]
  exact h6
 ·exact World.cell?_setCell_same' _ _ _ (by rw [setCell_at _ _ _ _ _ (by omega), h0]; rfl)
theorem zb48 : Tryz.prog.built 48 [] = some Tryz.zeroCells48 := by kernel_rfl
theorem zfirst48 : Tryz.zeroCells48[0]? = some (.int .i64 0) := by kernel_rfl
theorem there_mid' {w : World} {s b : Nat} (h : w.there s 0 b) (o n : Nat) (hl : o + n ≤ b) : w.there s o n := fun j hj => by
 have := h (o + j) (by omega)
 rwa [Nat.zero_add] at this
set_option maxHeartbeats 1600000 in
set_option maxRecDepth 100000 in
theorem wipe_gone (g : Nat) (w : World) (h : GoneAt w g) (hf : Free w g) : Calls Tryz.prog 25 #[.pointer (some ⟨g, 0, none⟩)] w fun e w' => e = .returned (.int .i64 21) ∧ GoneAt w' g ∧ Free w' g ∧ Fr w w' [g] := by
 have HR : Hid (w.there g 0 1091 ∧ g < w.heap.size) := ⟨h.room, h.lt⟩
 have h4 : w.cell? ⟨g, 4, none⟩ = some (.int .i32 0) := h.count
 obtain ⟨x2, c2⟩ := cell_of_there h.room 2 (by decide)
 obtain ⟨x3, c3⟩ := cell_of_there h.room 3 (by decide)
 have z0 := (h.room 0 (by decide)).2
 have z4 := (h.room 4 (by decide)).2
 have KL : Hid (Calls Tryz.prog 53 #[.pointer (some ⟨g, 0, none⟩)] w fun e w' => e = .returned (.tuple #[]) ∧ w' = (w.setCell ⟨g, 0, none⟩ (.int .i32 1)).setCell ⟨g, 4, none⟩ (.int .i32 (-1073741824))) := wlock_free rwWLib g 0 x2 x3 w hf c2 c3 h4 z0 z4
 have HT : Hid (Fr w ((w.setCell ⟨g, 0, none⟩ (.int .i32 1)).setCell ⟨g, 4, none⟩ (.int .i32 (-1073741824))) [g] ∧ ((w.setCell ⟨g, 0, none⟩ (.int .i32 1)).setCell ⟨g, 4, none⟩ (.int .i32 (-1073741824))).there g 0 1091 ∧ ((w.setCell ⟨g, 0, none⟩ (.int .i32 1)).setCell ⟨g, 4, none⟩ (.int .i32 (-1073741824))).cell? ⟨g, 0, none⟩ = some (.int .i32 1) ∧ ((w.setCell ⟨g, 0, none⟩ (.int .i32 1)).setCell ⟨g, 4, none⟩ (.int .i32 (-1073741824))).cell? ⟨g, 4, none⟩ = some (.int .i32 (-1073741824))) := by
  refine ⟨(set_fr w g 0 _).trans (set_fr _ g 4 _), World.there_setCells (World.there_setCells h.room g 0 [_]) g 4 [_], ?_, ?_⟩
  ·rw [setCell_at _ _ _ _ _ (by omega)]
   exact World.cell?_setCell_same' _ _ _ (by rw [show w.cell? ⟨g, 0, none⟩ = _ from hf]; rfl)
  ·exact World.cell?_setCell_same' _ _ _ (by rw [setCell_at _ _ _ _ _ (by omega), h4]; rfl)
 have c6 : ((w.setCell ⟨g, 0, none⟩ (.int .i32 1)).setCell ⟨g, 4, none⟩ (.int .i32 (-1073741824))).cell? ⟨g, 6, none⟩ = some (.int .i64 0) := by
  rw [setCell_at _ _ _ _ _ (by omega), setCell_at _ _ _ _ _ (by omega)]
  exact h.rounds
 generalize (w.setCell ⟨g, 0, none⟩ (.int .i32 1)).setCell ⟨g, 4, none⟩ (.int .i32 (-1073741824)) = v at KL HT c6
 clear c2 c3 z0 z4 h4 h hf
 go_enter_defers Tryz.func25, Tryz.ntmps25
 go_wp2_with (first | (go_at_call 53; refine KL.out.mono ?_))
 rintro e1 w1 ⟨rfl, hw1⟩
 obtain rfl := hw1.symm
 clear KL
 have H3 : Hid (Fr w v [g] ∧ v.there g 0 1091 ∧ v.cell? ⟨g, 0, none⟩ = some (.int .i32 1) ∧ v.cell? ⟨g, 4, none⟩ = some (.int .i32 (-1073741824)) ∧ v.cell? ⟨g, 6, none⟩ = some (.int .i64 0)) := ⟨HT.out.1, HT.out.2.1, HT.out.2.2.1, HT.out.2.2.2, c6⟩
 go_wp2_with fail
 refine leaves_cons (f := 54) (args := #[.pointer (some ⟨g, 0, none⟩)]) (by simp) (by simp [go_sem]) ?_
 refine (wlet H3.out.2.1 H3.out.2.2.1 H3.out.2.2.2.1 H3.out.2.2.2.2 (Nat.lt_of_lt_of_le HR.out.2 H3.out.1.size)).mono ?_
 rintro e5 u5 w5 ⟨rfl, rfl, h5, h6, h7⟩
 exact ⟨_, results_tmp rfl _ _ _, rfl, h5, h6, H3.out.1.trans h7⟩
set_option maxHeartbeats 1600000 in
set_option maxRecDepth 100000 in
theorem wipe_ok (g nr : Nat) (K : Nat → Nat) (w : World) (h : KeyAt w g nr K) (hf : Free w g) : Calls Tryz.prog 25 #[.pointer (some ⟨g, 0, none⟩)] w fun e w' => e = .returned (.int .i64 0) ∧ GoneAt w' g ∧ Free w' g ∧ Fr w w' [g] := by
 have HR : Hid (w.there g 0 1091 ∧ g < w.heap.size) := ⟨h.room, h.ciph.here⟩
 have h4 : w.cell? ⟨g, 4, none⟩ = some (.int .i32 0) := h.count
 obtain ⟨x2, c2⟩ := cell_of_there h.room 2 (by decide)
 obtain ⟨x3, c3⟩ := cell_of_there h.room 3 (by decide)
 have z0 := (h.room 0 (by decide)).2
 have z4 := (h.room 4 (by decide)).2
 have KL : Hid (Calls Tryz.prog 53 #[.pointer (some ⟨g, 0, none⟩)] w fun e w' => e = .returned (.tuple #[]) ∧ w' = (w.setCell ⟨g, 0, none⟩ (.int .i32 1)).setCell ⟨g, 4, none⟩ (.int .i32 (-1073741824))) := wlock_free rwWLib g 0 x2 x3 w hf c2 c3 h4 z0 z4
 have HT : Hid (Fr w ((w.setCell ⟨g, 0, none⟩ (.int .i32 1)).setCell ⟨g, 4, none⟩ (.int .i32 (-1073741824))) [g] ∧ ((w.setCell ⟨g, 0, none⟩ (.int .i32 1)).setCell ⟨g, 4, none⟩ (.int .i32 (-1073741824))).there g 0 1091 ∧ ((w.setCell ⟨g, 0, none⟩ (.int .i32 1)).setCell ⟨g, 4, none⟩ (.int .i32 (-1073741824))).cell? ⟨g, 0, none⟩ = some (.int .i32 1) ∧ ((w.setCell ⟨g, 0, none⟩ (.int .i32 1)).setCell ⟨g, 4, none⟩ (.int .i32 (-1073741824))).cell? ⟨g, 4, none⟩ = some (.int .i32 (-1073741824))) := by
  refine ⟨(set_fr w g 0 _).trans (set_fr _ g 4 _), World.there_setCells (World.there_setCells h.room g 0 [_]) g 4 [_], ?_, ?_⟩
  ·rw [setCell_at _ _ _ _ _ (by omega)]
   exact World.cell?_setCell_same' _ _ _ (by rw [show w.cell? ⟨g, 0, none⟩ = _ from hf]; rfl)
  ·exact World.cell?_setCell_same' _ _ _ (by rw [setCell_at _ _ _ _ _ (by omega), h4]; rfl)
 have c6 : ((w.setCell ⟨g, 0, none⟩ (.int .i32 1)).setCell ⟨g, 4, none⟩ (.int .i32 (-1073741824))).cell? ⟨g, 6, none⟩ = some (.int .i64 (nr : Nat)) := by
  rw [setCell_at _ _ _ _ _ (by omega), setCell_at _ _ _ _ _ (by omega)]
  exact h.ciph.rounds
 have hn : (((nr : Nat) : Int) == 0) = false := by have := h.ciph.some; simp; omega
 generalize (w.setCell ⟨g, 0, none⟩ (.int .i32 1)).setCell ⟨g, 4, none⟩ (.int .i32 (-1073741824)) = v at KL HT c6
 clear c2 c3 z0 z4 h4 h hf
 obtain ⟨Z, HZ⟩ : ∃ Z, Hid (Z = Tryz.zeroCells48) := ⟨_, rfl⟩
 have HZB : Hid (Tryz.prog.built 48 [] = some Z) := by show _ = _; rw [HZ.out]; exact zb48
 have HZS : Hid (Z.size = 1085) := by show _ = _; rw [HZ.out]; exact zero_size
 have HZ1 : Hid (Z.all (·.oneCell') = true) := by show _ = _; rw [HZ.out, ← Array.all_toList]; exact zero_one
 have HZ0 : Hid (Z[0]? = some (.int .i64 0)) := by show _ = _; rw [HZ.out]; exact zfirst48
 have HST : Hid (v.there g 6 Z.size ∧ (Tryz.prog.info? 48).map (·.size) = some Z.size) := by refine ⟨?_, ?_⟩; (rw [HZS.out]; exact there_mid' HT.out.2.1 6 1085 (by omega)); (rw [HZS.out]; exact size68)
 go_enter_defers Tryz.func25, Tryz.ntmps25
 go_wp2_with (first | (go_at_call 53; refine KL.out.mono ?_))
 rintro e1 w1 ⟨rfl, hw1⟩
 obtain rfl := hw1.symm
 clear KL
 go_wp2_with (first
  | (refine wpList_store_mid (by rfl) 48 (.tmp 21) (.tmp 19) (by rfl) g 6 Tryz.zeroCells48 (by rfl) (by rfl) (HZ.out ▸ HST.out.1) (HZ.out ▸ HST.out.2) (HZ.out ▸ HZ1.out) ?_)
  | fail)
 rw [← HZ.out]
 have H3 : Hid (Fr w (v.setCells g 6 Z.toList) [g] ∧ (v.setCells g 6 Z.toList).there g 0 1091 ∧ (v.setCells g 6 Z.toList).cell? ⟨g, 0, none⟩ = some (.int .i32 1) ∧ (v.setCells g 6 Z.toList).cell? ⟨g, 4, none⟩ = some (.int .i32 (-1073741824)) ∧ (v.setCells g 6 Z.toList).cell? ⟨g, 6, none⟩ = some (.int .i64 0)) := by
  obtain ⟨h1, h2, h3, h4⟩ := HT.out
  refine ⟨h1.trans (setCells_frG _ _ _ _), World.there_setCells h2 _ _ _, ?_, ?_, ?_⟩
  ·rw [World.cell?_setCells_out g Z.toList 6 v ⟨g, 0, none⟩ (fun _ _ => .inl (by show 0 < 6; omega))]; exact h3
  ·rw [World.cell?_setCells_out g Z.toList 6 v ⟨g, 4, none⟩ (fun _ _ => .inl (by show 4 < 6; omega))]; exact h4
  ·exact World.rangeAt_setCells_same _ _ _ _ (by rw [Array.length_toList]; exact HST.out.1) 0 _ (by rw [Array.getElem?_toList]; exact HZ0.out)
 generalize v.setCells g 6 Z.toList = w3 at H3 ⊢
 clear HT c6
 go_wp2_with fail
 refine leaves_cons (f := 54) (args := #[.pointer (some ⟨g, 0, none⟩)]) (by simp) (by simp [go_sem]) ?_
 refine (wlet H3.out.2.1 H3.out.2.2.1 H3.out.2.2.2.1 H3.out.2.2.2.2 (Nat.lt_of_lt_of_le HR.out.2 H3.out.1.size)).mono ?_
 rintro e5 u5 w5 ⟨rfl, rfl, h5, h6, h7⟩
 exact ⟨_, results_tmp rfl _ _ _, rfl, h5, h6, H3.out.1.trans h7⟩
end Go.Proofs.YtgmfiljjogdccabGreatDoor
namespace Go.Proofs.YtgmfiljjogdccabGreatDoor
open Go.RowKit Go.RwLone
set_option linter.unusedVariables false
set_option linter.unusedSimpArgs false
/-- The words of a key's schedule, as cells. -/
def wordsL (K : Nat → Nat) (m : Nat) : List Value := (List.range m).map fun i => .int .u32 (K i : Nat)
theorem wordsL_one (K : Nat → Nat) (m : Nat) : ∀ u ∈ wordsL K m, u.oneCell' = true := by
 intro u hu
 simp only [wordsL, List.mem_map] at hu
 obtain ⟨i, _, rfl⟩ := hu
 rfl
theorem wordsL_at (K : Nat → Nat) (m i : Nat) (hi : i < m) : (wordsL K m)[i]? = some (.int .u32 (K i : Nat)) := by simp [wordsL, hi]
set_option maxHeartbeats 1600000 in
set_option maxRecDepth 100000 in
theorem words_ok (g nr : Nat) (K : Nat → Nat) (w : World) (h : KeyAt w g nr K) : Calls Tryz.prog 32 #[.pointer (some ⟨g, 0, none⟩)] w fun e w' => ∃ v, e = .returned v ∧ w'.ownsRow w.heap.size 43 1 v (4 * (nr + 1)) (wordsL K (4 * (nr + 1))) ∧ KeyAt w' g nr K ∧ Touch w w' g 4 1 := by
 have HK : Hid (KeyAt w g nr K) := h
 have HH : Hid (Calls Tryz.prog 41 #[.pointer (some ⟨g, 0, none⟩)] w fun e w' => e = .returned (.int .i64 0) ∧ w' = w.setCell ⟨g, 4, none⟩ (.int .i32 1)) := hold_ok g nr K w h
 have h14 := h.ciph.most
 have HG : Hid (g < w.heap.size) := h.ciph.here
 clear h
 obtain ⟨m, HM⟩ : ∃ m, Hid (m = 4 * (nr + 1)) := ⟨_, rfl⟩
 rw [← HM.out]
 have hm60 : m ≤ 60 := by have := HM.out; omega
 have hmi : ((m : Nat) : Int) ≤ 60 := by omega
 go_enter_defers Tryz.func32, Tryz.ntmps32
 go_wp2_with (first | (go_at_call 41; refine HH.out.mono ?_))
 rintro e1 w1 ⟨rfl, hw1⟩
 have H1 : Hid (Ciph w1 g 6 nr K ∧ Touch w w1 g 4 1 ∧ w1.cell? ⟨g, 4, none⟩ = some (.int .i32 1)) := held HK.out hw1
 have HSZ : Hid (w1.heap.size = w.heap.size) := by show _ = _; rw [hw1]; simp
 clear hw1 HH
 have KW : Hid (∀ u, Below w1.heap.size w1 u → Calls Tryz.prog 37 #[.pointer (some ⟨g, 6, none⟩)] u fun e w' => e = .returned (.int .i64 (m : Nat)) ∧ w' = u) := fun u hu => by
  rw [HM.out]
  exact wordCount_ok g 6 nr u ((hu.cell H1.out.1.here).trans H1.out.1.rounds) h14
 have KC : Hid (∀ u, Below w1.heap.size w1 u → Calls Tryz.prog 60 #[.slice (some ⟨g, 7, none⟩) m 60] u fun e w' => ∃ v, e = .returned v ∧ w'.ownsRow u.heap.size 43 1 v m (wordsL K m) ∧ Below u.heap.size u w') := fun u hu => by
  refine clone_ok ⟨g, 7, none⟩ m 60 (wordsL K m) u (by show _ = _; simp [wordsL]) (by omega) (fun j v hv => ?_) (wordsL_one K m)
  have hj : j < m := by have := (List.getElem?_eq_some_iff.1 hv).1; simpa [wordsL] using this
  rw [wordsL_at K m j hj] at hv
  cases hv
  rw [Addr.add_lit, hu.cell (p := ⟨g, 7 + j, none⟩) H1.out.1.here]
  exact H1.out.1.words j (by have := HM.out; omega)
 go_wp2_with fail
 have hS0 : Below w1.heap.size w1 w1.drew := (Below.refl _ _).drew
 refine wp_region_noPanic ?_
 refine wp_region_held_drew (S := fun u => Below w1.heap.size w1 u) (by kernel_rfl) (hS0) (fun _ => ?_)
 refine tG 0 9 (.pointer (some ⟨g, 0, none⟩)) rfl rfl hS0 ?_
 simp only [pU]
 refine tG 1 10 (.pointer (some ⟨g, 0, none⟩)) rfl rfl hS0 ?_
 simp only [pU]
 refine tG 2 11 (.pointer (some ⟨g, 6, none⟩)) rfl rfl hS0 ?_
 simp only [pU]
 refine tG 3 12 (.pointer (some ⟨g, 7, none⟩)) rfl rfl hS0 ?_
 simp only [pU]
 refine tG 4 13 (.pointer (some ⟨g, 0, none⟩)) rfl rfl hS0 ?_
 simp only [pU]
 refine tG 5 14 (.pointer (some ⟨g, 0, none⟩)) rfl rfl hS0 ?_
 simp only [pU]
 refine tG 6 15 (.pointer (some ⟨g, 6, none⟩)) rfl rfl hS0 ?_
 simp only [pU]
 refine wpAnyH_ready (rs := [7]) (by kernel_rfl) (by simp) ?_
 refine AllReadyH.cons rfl (fun K hK => ?_) AllReadyH.nil
 go_simp
 refine (KW.out _ hS0).mono ?_
 rintro e1 w1 ⟨rfl, hw1⟩
 obtain rfl := hw1.symm
 go_wp2_with fail
 refine hK.out _ _ (hS0) (fun _ => ?_)
 clear hK K
 try simp only [pU]
 refine tG 8 17 (.slice (some ⟨g, 7, none⟩) m 60) rfl rfl hS0 ?_
 simp only [pU]
 refine wpAnyH_ready (rs := [9]) (by kernel_rfl) (by simp) ?_
 refine AllReadyH.cons rfl (fun K hK => ?_) AllReadyH.nil
 go_simp
 refine (KC.out _ hS0).mono ?_
 rintro e2 w2 ⟨v, rfl, hown2, hb2⟩
 go_wp2_with fail
 have hS2 : Below w1.heap.size w1 w2 := hS0.trans (hb2.mono (Nat.le_refl _))
 refine hK.out _ _ hS2 (fun _ => ?_)
 clear hK K
 try simp only [pU]
 refine wpAnyH_ready (rs := [10]) (by kernel_rfl) (by simp) ?_
 refine AllReadyH.cons rfl (fun K hK => ?_) AllReadyH.nil
 go_simp
 refine hK.out _ _ hS2 (fun _ => ?_)
 clear hK K
 try simp only [pU]
 refine wpAnyH_done (by kernel_rfl) ?_ _
 refine NoPanic.normal ?_
 have H2 : Hid (w2.ownsRow w.heap.size 43 1 v m (wordsL K m) ∧ Touch w w2 g 4 1 ∧ w2.cell? ⟨g, 4, none⟩ = some (.int .i32 1)) := by
  have hsz : w1.drew.heap.size = w.heap.size := by
   show w1.heap.size = _
   exact HSZ.out
  rw [hsz] at hown2
  exact ⟨hown2, H1.out.2.1.below hS2 HG.out, (hS2.cell H1.out.1.here).trans H1.out.2.2⟩
 clear hown2 hb2 hS2 KW KC hS0
 go_wp2_with fail
 refine leaves_cons (f := 42) (args := #[.pointer (some ⟨g, 0, none⟩)]) (by simp) (by simp [go_sem]) ?_
 refine (unlocked HK.out H2.out.2.1 H2.out.2.2).mono ?_
 rintro e5 u5 w5 ⟨rfl, rfl, hk5, ht5, hw5⟩
 refine ⟨_, results_tmp rfl _ _ _, _, rfl, ?_, hk5, ht5⟩
 refine ownsRow_same H2.out.1 (fun q' hq' => ?_)
 rw [hw5]
 exact ((Touch.refl w2 g 4 1).setCells 4 _ (by omega) (by simp)).block q' (H2.out.1.lt q' hq').2 (by have h1 := (H2.out.1.lt q' hq').1; have h2 := HG.out; omega)
end Go.Proofs.YtgmfiljjogdccabGreatDoor
namespace Go.Proofs.YtgmfiljjogdccabGreatDoor
open Go.RowKit Go.RwLone
set_option linter.unusedVariables false
set_option linter.unusedSimpArgs false
theorem view_lt {w : World} {v : Value} {zs : List Int} (hv : View w v zs) (h0 : zs ≠ []) : ∀ b off l c, v = .slice (some ⟨b, off, none⟩) l c → b < w.heap.size := fun b off l c e => by
 obtain ⟨a, cap, e1, h1, h2, h3, h4⟩ := hv
 rcases h4 with h4 | ⟨b', p', e2, hc⟩
 ·exact absurd h4 h0
 ·rw [e] at e1
  injection e1 with e3 _ _
  rw [e2] at e3
  injection e3 with e3
  injection e3 with e4 _
  have := World.block_lt_of_cell? w _ (hc 0 (by cases zs with | nil => exact absurd rfl h0 | cons _ _ => simp))
  simp at this
  omega
theorem view_sliced {w : World} {a : Option Addr} {n cap : Nat} {zs : List Int} (hv : View w (.slice a n cap) zs) (i j : Nat) (hij : i ≤ j) (hj : j ≤ n) : View w (sliced a i j cap 1) ((zs.drop i).take (j - i)) := by
 obtain ⟨a', c, he, h1, h2, h3, h4⟩ := hv
 injection he with e1 e2 e3
 subst e1 e2 e3
 have hl : ((zs.drop i).take (j - i)).length = j - i := by simp; omega
 refine ⟨if cap = i then a else a.map (·.add (i * 1)), cap - i, by rw [sliced, hl], by omega, by omega, ?_, ?_⟩
 ·intro e
  split at e
  ·omega
  ·have : a = none := by cases a with | none => rfl | some x => cases e
   have := h3 this
   omega
 ·by_cases hz : (zs.drop i).take (j - i) = []
  ·exact .inl hz
  ·right
   have hlt : i < j := by
    by_cases hlt : i < j
    ·exact hlt
    ·exact absurd (by rw [show j - i = 0 by omega, List.take_zero]) hz
   rcases h4 with rfl | ⟨b, off, rfl, hc⟩
   ·simp at hj; omega
   ·refine ⟨b, off + i, ?_, fun k hk => ?_⟩
    ·rw [if_neg (by omega), Option.map_some, Nat.mul_one, Addr.add_mid]
    ·rw [hl] at hk
     rw [Nat.add_assoc, hc (i + k) (by omega)]
     simp [List.getD, List.getElem?_take, hk]
theorem elem22 : Tryz.prog.elem 22 = 5 := by kernel_rfl
theorem und22 : Tryz.prog.underlying 22 = some (.slice (Tryz.prog.elem 22)) := by kernel_rfl
theorem sizeOf5 (w : World) : (Go.sizeOf 5).run Tryz.prog w = .ok 1 w := by kernel_rfl
theorem slice_lh (w : World) (a : Option Addr) (n cap i j : Nat) (hij : i ≤ j) (hj : j ≤ cap) : (Instr.slice 22 (.slice a n cap) (some (.int .i64 i)) (some (.int .i64 j)) none).run Tryz.prog w = .ok (sliced a i j cap 1) w := by
 rw [run_slice_lh w 22 a n cap und22 .i64 .i64 i j (by omega) (by omega) (by omega), elem22, sizeOf5]
 simp [Result.andThen]
theorem slice_h (w : World) (a : Option Addr) (n cap j : Nat) (hj : j ≤ cap) : (Instr.slice 22 (.slice a n cap) none (some (.int .i64 j)) none).run Tryz.prog w = .ok (sliced a 0 j cap 1) w := by
 rw [run_slice_h w 22 a n cap und22 .i64 j (by omega) (by omega), elem22, sizeOf5]
 simp [Result.andThen]
theorem slice_l (w : World) (a : Option Addr) (n cap i : Nat) (hi : i ≤ n) (hn : n ≤ cap) : (Instr.slice 22 (.slice a n cap) (some (.int .i64 i)) none none).run Tryz.prog w = .ok (sliced a i n cap 1) w := by
 rw [run_slice_l w 22 a n cap und22 .i64 i (by omega) (by omega), elem22, sizeOf5]
 simp [Result.andThen]

/-- A list of bytes as numbers. -/
def nat8 (zs : List Int) (i : Nat) : Nat := (zs.getD i 0).toNat
theorem nat8_lt {zs : List Int} (h : AllBytes zs) (i : Nat) : nat8 zs i < 256 := by have := h i; unfold nat8; omega
theorem nat8_eq {zs : List Int} (h : AllBytes zs) (i : Nat) : ((nat8 zs i : Nat) : Int) = zs.getD i 0 := by have := h i; unfold nat8; omega
theorem View.below {w u : World} {v : Value} {zs : List Int} (h : View w v zs) (hb : Below w.heap.size w u) : View u v zs := h.kept hb.block
/-- What is owned can be read. -/
theorem view_owns {w : World} {B n : Nat} {v : Value} {zs : List Int} (h : w.ownsRow B 5 1 v n (cellsU8 zs)) (hn : zs.length = n) : View w v zs := by
 have h0 := h
 rcases h.2 with ⟨rfl, e0⟩ | ⟨g, c, cur, rfl, q1, q2, q3, q4, q5, q6⟩
 ·refine ⟨none, 0, by rw [hn, e0], by omega, by simp [maxLen], fun _ => rfl, Or.inl (List.eq_nil_of_length_eq_zero (by omega))⟩
 ·refine ⟨some ⟨g, 0, none⟩, c, by rw [hn], by omega, q4, (fun e => by cases e), Or.inr ⟨g, 0, rfl, fun i hi => ?_⟩⟩
  have hc := h0.cells (g := g) rfl i (.int .u8 (zs.getD i 0)) (by simp [cellsU8, List.getD, List.getElem?_eq_getElem hi])
  rw [Addr.add_lit] at hc
  exact hc
set_option maxHeartbeats 3200000 in
set_option maxRecDepth 100000 in
theorem xor_zero (t g n nr cap : Nat) (a : Option Addr) (K : Nat → Nat) (s0 : W4) (w : World) (hk : KeyAt w g nr K) (hs : StreamAt w t g s0 n) (hne : t ≠ g) :
  Calls Tryz.prog 13 #[.pointer (some ⟨t, 0, none⟩), .slice a 0 cap] w fun e w' => ∃ v, e = .returned (.tuple #[v, .int .i64 0]) ∧ w'.ownsRow w.heap.size 5 1 v 0 [] ∧ KeyAt w' g nr K ∧ StreamAt w' t g s0 n ∧ Touch2 w w' g t := by
 obtain ⟨i0, hi, hz0, hz1, hz2⟩ := info_parts Tryz.info5
 have HK : Hid (KeyAt w g nr K) := hk
 have HS : Hid (StreamAt w t g s0 n) := hs
 have HNE : Hid (t ≠ g) := hne
 have HG : Hid (g < w.heap.size) := hk.ciph.here
 have HT : Hid (t < w.heap.size) := hs.here
 have HH : Hid (Calls Tryz.prog 41 #[.pointer (some ⟨g, 0, none⟩)] w fun e w' => e = .returned (.int .i64 0) ∧ w' = w.setCell ⟨g, 4, none⟩ (.int .i32 1)) := hold_ok g nr K w hk
 have ck := hs.key
 clear hk hs hne
 go_enter_defers Tryz.func13, Tryz.ntmps13
 go_wp2_with (first | (go_at_call 41; refine HH.out.mono ?_))
 rintro e1 w1 ⟨rfl, hw1⟩
 have H1 : Hid (Ciph w1 g 6 nr K ∧ Touch w w1 g 4 1 ∧ w1.cell? ⟨g, 4, none⟩ = some (.int .i32 1)) := held HK.out hw1
 have HS1 : Hid (StreamAt w1 t g s0 n) := HS.out.touch H1.out.2.1 HNE.out
 have HX1 : Hid (XAt w w1 t g nr K s0 n) := ⟨H1.out.1, H1.out.2.2, H1.out.2.1.there _ _ HK.out.room, HS1.out, H1.out.2.1.left t⟩
 clear hw1 HH ck
 have ck : w1.cell? ⟨t, 0, none⟩ = some (.pointer (some ⟨g, 0, none⟩)) := HS1.out.key
 have KL : Hid (Calls Tryz.prog 43 #[.pointer (some ⟨t, 0, none⟩)] w1 fun e w' => e = .returned (.int .u64 (1099511627776 - n : Nat)) ∧ w' = w1) := left_ok t g n s0 w1 HS1.out
 obtain ⟨lf, HLF⟩ : ∃ x, Hid (x = 1099511627776 - n) := ⟨_, rfl⟩
 rw [← HLF.out] at KL
 go_wp2_with (first
  | (go_at_call 43; refine KL.out.mono ?_; rintro e2 w2 ⟨rfl, hw2⟩; obtain rfl := hw2.symm)
  | (at_make; go_must (refine wpList_make_own _ rfl _ _ 22 rfl w.heap.size 5 i0 (.int .u8 0) 1 Tryz.underlying22 hi hz0 hz1 .i64 .i64 0 0 rfl rfl ?_ ?_ ?_ ?_ ?_)))
 ·rfl
 ·rw [hz2]; omega
 ·unfold maxLen; omega
 ·exact HX1.out.two.size
 intro w3 hown hgrow
 have HX3 : Hid (XAt w w3 t g nr K s0 n) := HX1.out.below ((Below.refl _ _).grown hgrow HX1.out.two.size (by intro k hk; cases hk)) HG.out HT.out
 have HO3 : Hid (w3.ownsRow w.heap.size 5 1 (.slice (some ⟨w1.heap.size, 0, none⟩) 0 0) 0 []) := hown
 clear hgrow ck KL HX1 HS1 H1 hown
 go_wp2
 go_loop [7] (fun v => v = .slice (some ⟨w1.heap.size, 0, none⟩) 0 0) (fun _ => 0)
 case atStart => rfl
 case round =>
  obtain rfl := hrel
  go_wp2
  refine leaves_cons (f := 42) (args := #[.pointer (some ⟨g, 0, none⟩)]) (by simp) (by simp [go_sem]) ?_
  refine (unlock3 HX3.out.ciph HX3.out.cnt HX3.out.room).mono ?_
  rintro e5 u5 w5 ⟨rfl, rfl, hk5, ht5⟩
  refine ⟨_, results_tmp2 rfl _ _ _, _, rfl, ?_, hk5, HX3.out.str.touch ht5 HNE.out, HX3.out.two.trans (ht5.left t)⟩
  refine ownsRow_same HO3.out (fun q' hq' => ?_)
  exact ht5.block q' (HO3.out.lt q' hq').2 (by have h1 := (HO3.out.lt q' hq').1; have h2 := HG.out; omega)
/-- XOR of any list. -/
theorem xor_any (t g n nr : Nat) (K : Nat → Nat) (s0 : W4) (D : Value) (zs : List Int) (w : World) (hk : KeyAt w g nr K) (hs : StreamAt w t g s0 n) (hne : t ≠ g) (hv : View w D zs) (hb : AllBytes zs) (hm : zs.length ≤ 1048576) (hroom : n + zs.length ≤ 1099511627776) (hfar : ∀ x, D.ownBlock = some x → zs ≠ [] → x ≠ g ∧ x ≠ t) :
  Calls Tryz.prog 13 #[.pointer (some ⟨t, 0, none⟩), D] w fun e w' => ∃ v, e = .returned (.tuple #[v, .int .i64 0]) ∧ w'.ownsRow w.heap.size 5 1 v zs.length (cellsU8 (xorL nr K s0 n (nat8 zs) zs.length)) ∧ KeyAt w' g nr K ∧ StreamAt w' t g s0 (n + zs.length) ∧ Touch2 w w' g t := by
 obtain ⟨a, cap, rfl, h1, h2, h3, h4⟩ := hv
 rcases h4 with rfl | ⟨b, off, rfl, hc⟩
 ·refine (xor_zero t g n nr cap a K s0 w hk hs hne).mono ?_
  rintro e w' ⟨v, rfl, ho, q1, q2, q3⟩
  exact ⟨v, rfl, ho, q1, q2, q3⟩
 ·by_cases h0 : zs = []
  ·subst h0
   refine (xor_zero t g n nr cap _ K s0 w hk hs hne).mono ?_
   rintro e w' ⟨v, rfl, ho, q1, q2, q3⟩
   exact ⟨v, rfl, ho, q1, q2, q3⟩
  ·have hpos : 0 < zs.length := List.length_pos_iff.2 h0
   have hbl : b < w.heap.size := World.block_lt_of_cell? w _ (hc 0 hpos)
   obtain ⟨f1, f2⟩ := hfar b rfl h0
   exact xor_ok t g n nr zs.length b off cap K s0 (nat8 zs) w hk hs hne hm hroom hbl f1 f2 h1 (by unfold maxLen at h2; omega) (fun i hi => by rw [hc i hi, nat8_eq hb]) (nat8_lt hb)
theorem xorL_back (nr : Nat) (K : Nat → Nat) (s0 : W4) (n : Nat) {zs : List Int} (hb : AllBytes zs) : xorL nr K s0 n (nat8 (xorL nr K s0 n (nat8 zs) zs.length)) zs.length = zs := by
 refine ext_getD (xorL_length _ _ _ _ _ _) rfl (fun j hj => ?_)
 have e1 : ∀ f : Nat → Nat, (xorL nr K s0 n f zs.length).getD j 0 = ((Nat.xor (f j) (ksb nr K s0 (n + j)) : Nat) : Int) := fun f => by simp [xorL, List.getD, hj]
 rw [e1]
 have e2 : nat8 (xorL nr K s0 n (nat8 zs) zs.length) j = Nat.xor (nat8 zs j) (ksb nr K s0 (n + j)) := by unfold nat8; rw [e1]; rfl
 rw [e2, xor_self_right, nat8_eq hb]
theorem xorL_bytes (nr : Nat) (K : Nat → Nat) (s0 : W4) (n m : Nat) {f : Nat → Nat} (hf : ∀ i, f i < 256) : AllBytes (xorL nr K s0 n f m) := fun i => by
 by_cases hi : i < m
 ·have e1 : (xorL nr K s0 n f m).getD i 0 = ((Nat.xor (f i) (ksb nr K s0 (n + i)) : Nat) : Int) := by simp [xorL, List.getD, hi]
  rw [e1]
  have := Nat.xor_lt_two_pow (n := 8) (hf i) (W4.by_lt (encW nr K (ctrW s0 ((n + i) / 16))) ((n + i) % 16))
  have h2 : Nat.xor (f i) (ksb nr K s0 (n + i)) < 256 := this
  omega
 ·have e1 : (xorL nr K s0 n f m).getD i 0 = 0 := by rw [List.getD_eq_getElem?_getD, List.getElem?_eq_none (by rw [xorL_length]; omega)]; rfl
  rw [e1]; decide
end Go.Proofs.YtgmfiljjogdccabGreatDoor
