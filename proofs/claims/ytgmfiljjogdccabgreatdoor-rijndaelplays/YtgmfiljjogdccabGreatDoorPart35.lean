import Derived.Test.YtgmfiljjogdccabGreatDoorPxd
import Derived.Test.YtgmfiljjogdccabGreatDoorPart29
import Derived.Test.YtgmfiljjogdccabGreatDoorSch
import Derived.Conc.RwLoneW
import Derived.Test.YtgmfiljjogdccabGreatDoorPart24
namespace Go.Proofs.YtgmfiljjogdccabGreatDoor
open Go.RowKit
set_option linter.unusedVariables false
set_option maxRecDepth 100000 in
theorem rwrap_nil (a : Option Addr) (m cap : Nat) (w : World) : Calls Tryz.prog 27 #[.pointer none, .slice a m cap] w fun e w' => e = .returned (.tuple #[.slice none 0 0, .int .i64 1]) ∧ w' = w := by
 go_enter Tryz.func27, Tryz.ntmps27
 go_wp2
 go_ret2
 exact ⟨rfl, rfl⟩
set_option maxRecDepth 100000 in
theorem rwrap_gone (g m cap : Nat) (a : Option Addr) (w : World) (hw : w.cell? ⟨g, 4610, none⟩ = some (.bool true)) : Calls Tryz.prog 27 #[.pointer (some ⟨g, 0, none⟩), .slice a m cap] w fun e w' => e = .returned (.tuple #[.slice none 0 0, .int .i64 21]) ∧ w' = w := by
 go_enter Tryz.func27, Tryz.ntmps27
 go_wp2
 go_ret2
 exact ⟨rfl, rfl⟩
set_option maxRecDepth 100000 in
theorem rwrap_bad (g m cap : Nat) (a : Option Addr) (w : World) (hw : w.cell? ⟨g, 4610, none⟩ = some (.bool false)) (hm : m ≤ 9223372036854775807) (hb : ¬ (16 ≤ m ∧ m % 8 = 0 ∧ m ≤ 4096)) : Calls Tryz.prog 27 #[.pointer (some ⟨g, 0, none⟩), .slice a m cap] w fun e w' => e = .returned (.tuple #[.slice none 0 0, .int .i64 (ckE m 16 4096)]) ∧ w' = w := by
 unfold ckE
 by_cases h1 : m < 16
 ·rw [if_pos (.inl h1)]
  have hlt : ((m : Nat) : Int) < 16 := by omega
  clear hb h1
  go_enter Tryz.func27, Tryz.ntmps27
  go_wp2
  go_ret2
  exact ⟨rfl, rfl⟩
 ·have hlt : ¬ ((m : Nat) : Int) < 16 := by omega
  by_cases h2 : m % 8 = 0
  ·have hmm : ((m : Nat) : Int) % 8 = 0 := by omega
   rw [if_neg (by omega), if_pos (by omega)]
   have hgt : (4096 : Int) < (m : Nat) := by omega
   clear hb h1 h2
   go_enter Tryz.func27, Tryz.ntmps27
   go_wp2
   go_ret2
   exact ⟨rfl, rfl⟩
  ·rw [if_pos (.inr h2)]
   have hmm : (((m : Nat) : Int) % 8 != 0) = true := by simp; omega
   clear hb h1 h2
   go_enter Tryz.func27, Tryz.ntmps27
   go_wp2
   go_ret2
   exact ⟨rfl, rfl⟩
theorem mark_byte (x : Nat) (hx : x < 8) : byteK 12008468691120727718 x = 166 := by
 have h : x = 0 ∨ x = 1 ∨ x = 2 ∨ x = 3 ∨ x = 4 ∨ x = 5 ∨ x = 6 ∨ x = 7 := by omega
 rcases h with rfl | rfl | rfl | rfl | rfl | rfl | rfl | rfl <;> decide +kernel
theorem mark_bytes : (#[.int .u8 166, .int .u8 166, .int .u8 166, .int .u8 166, .int .u8 166, .int .u8 166, .int .u8 166, .int .u8 166] : Array Value) = (abL 8 (byteK 12008468691120727718)).toArray := by
 rw [abL_congr (g := fun _ => 166) (fun j hj => mark_byte j hj)]
 rfl
set_option maxHeartbeats 1600000 in
set_option maxRecDepth 100000 in
theorem rwrap_ok (g gr nk n b po cap q8 : Nat) (K : Nat → Nat) (f : Nat → Nat) (w : World) (hr : RefAt w g gr nk K) (hnk : nk ≤ 8) (hK : ∀ i, K i < 4294967296) (h1 : 2 ≤ n) (h2 : n ≤ 512) (h8 : q8 = 8 * n) (hb : b < w.heap.size) (hp : ∀ i, i < q8 → w.cell? ⟨b, po + i, none⟩ = some (.int .u8 (f i : Nat))) (hf : ∀ i, f i < 256) :
  Calls Tryz.prog 27 #[.pointer (some ⟨g, 0, none⟩), .slice (some ⟨b, po, none⟩) q8 cap] w fun e w' => ∃ v, e = .returned (.tuple #[v, .int .i64 0]) ∧ w'.ownsRow w.heap.size 5 1 v (8 + q8) (abL (8 + q8) (wrB (wrapF (nk + 6) K n f (6 * n)))) ∧ Below w.heap.size w w' := by
 have HC : Hid (Calls Tryz.prog 57 #[.pointer (some ⟨g, 0, none⟩), .agg #[.int .u8 166, .int .u8 166, .int .u8 166, .int .u8 166, .int .u8 166, .int .u8 166, .int .u8 166, .int .u8 166], .slice (some ⟨b, po, none⟩) q8 cap] w fun e w' => ∃ v, e = .returned v ∧ w'.ownsRow w.heap.size 5 1 v (8 + q8) (abL (8 + q8) (wrB (wrapF (nk + 6) K n f (6 * n)))) ∧ Below w.heap.size w w') := by
  show Calls _ _ _ _ _
  rw [mark_bytes]
  exact rwrapF_ok g gr nk n b po cap 12008468691120727718 q8 K f w hr hnk hK (by omega) h2 h8 (by omega) hb hp hf
 have hw := hr.wiped
 have hlt : ¬ ((q8 : Nat) : Int) < 16 := by omega
 have hmm : ((q8 : Nat) : Int) % 8 = 0 := by omega
 have hgt : ¬ (4096 : Int) < (q8 : Nat) := by omega
 clear hr hnk hK h1 h2 h8 hb hp hf
 go_enter Tryz.func27, Tryz.ntmps27
 go_wp2_with (first | (go_at_call 57; refine HC.out.mono ?_; rintro e1 w1 ⟨v1, rfl, ho1, hb1⟩))
 have HO : Hid (w1.ownsRow w.heap.size 5 1 v1 (8 + q8) (abL (8 + q8) (wrB (wrapF (nk + 6) K n f (6 * n)))) ∧ Below w.heap.size w w1) := ⟨ho1, hb1⟩
 go_ret2
 exact ⟨_, rfl, HO.out⟩
set_option maxRecDepth 100000 in
theorem runwrap_nil (a : Option Addr) (m cap : Nat) (w : World) : Calls Tryz.prog 29 #[.pointer none, .slice a m cap] w fun e w' => e = .returned (.tuple #[.slice none 0 0, .int .i64 1]) ∧ w' = w := by
 go_enter Tryz.func29, Tryz.ntmps29
 go_wp2
 go_ret2
 exact ⟨rfl, rfl⟩
set_option maxRecDepth 100000 in
theorem runwrap_gone (g m cap : Nat) (a : Option Addr) (w : World) (hw : w.cell? ⟨g, 4610, none⟩ = some (.bool true)) : Calls Tryz.prog 29 #[.pointer (some ⟨g, 0, none⟩), .slice a m cap] w fun e w' => e = .returned (.tuple #[.slice none 0 0, .int .i64 21]) ∧ w' = w := by
 go_enter Tryz.func29, Tryz.ntmps29
 go_wp2
 go_ret2
 exact ⟨rfl, rfl⟩
set_option maxRecDepth 100000 in
theorem runwrap_bad (g m cap : Nat) (a : Option Addr) (w : World) (hw : w.cell? ⟨g, 4610, none⟩ = some (.bool false)) (hm : m ≤ 9223372036854775807) (hb : ¬ (24 ≤ m ∧ m % 8 = 0 ∧ m ≤ 4104)) : Calls Tryz.prog 29 #[.pointer (some ⟨g, 0, none⟩), .slice a m cap] w fun e w' => e = .returned (.tuple #[.slice none 0 0, .int .i64 (ckE m 24 4104)]) ∧ w' = w := by
 unfold ckE
 by_cases h1 : m < 24
 ·rw [if_pos (.inl h1)]
  have hlt : ((m : Nat) : Int) < 24 := by omega
  clear hb h1
  go_enter Tryz.func29, Tryz.ntmps29
  go_wp2
  go_ret2
  exact ⟨rfl, rfl⟩
 ·have hlt : ¬ ((m : Nat) : Int) < 24 := by omega
  by_cases h2 : m % 8 = 0
  ·have hmm : ((m : Nat) : Int) % 8 = 0 := by omega
   rw [if_neg (by omega), if_pos (by omega)]
   have hgt : (4104 : Int) < (m : Nat) := by omega
   clear hb h1 h2
   go_enter Tryz.func29, Tryz.ntmps29
   go_wp2
   go_ret2
   exact ⟨rfl, rfl⟩
  ·rw [if_pos (.inr h2)]
   have hmm : (((m : Nat) : Int) % 8 != 0) = true := by simp; omega
   clear hb h1 h2
   go_enter Tryz.func29, Tryz.ntmps29
   go_wp2
   go_ret2
   exact ⟨rfl, rfl⟩
end Go.Proofs.YtgmfiljjogdccabGreatDoor
namespace Go.Proofs.YtgmfiljjogdccabGreatDoor
open Go.RowKit Go.RwLone Go.Conc.Locks
set_option linter.unusedVariables false
theorem setCell_at (w : World) (g o j : Nat) (x : Value) (h : j ≠ o) : (w.setCell ⟨g, o, none⟩ x).cell? ⟨g, j, none⟩ = w.cell? ⟨g, j, none⟩ := ((Touch.refl w g o 1).setCell o x (by omega) (by omega)).cell j (by omega)
/-- No writer holds the lock. -/
def Free (w : World) (g : Nat) : Prop := w.cell? ⟨g, 0, none⟩ = some (.int .i32 0)
theorem Free.touch {w v : World} {g : Nat} (h : Free w g) (ht : Touch w v g 4 1) : Free v g := (ht.cell 0 (by omega)).trans h
theorem Free.same {w v : World} {g : Nat} (h : Free w g) (e : v.heap[g]? = w.heap[g]?) : Free v g := (World.cell?_of_block (a := ⟨g, 0, none⟩) e).trans h
theorem wipe_nil (w : World) : Calls Tryz.prog 25 #[.pointer none] w fun e w' => e = .returned (.int .i64 1) ∧ w' = w := by
 go_enter Tryz.func25, Tryz.ntmps25
 go_wp2
 go_ret
 exact ⟨rfl, rfl⟩
/-- The writer lets go. -/
theorem wlet {w3 : World} {g : Nat} (hr : w3.there g 0 1091) (h0 : w3.cell? ⟨g, 0, none⟩ = some (.int .i32 1)) (h4 : w3.cell? ⟨g, 4, none⟩ = some (.int .i32 (-1073741824))) (h6 : w3.cell? ⟨g, 6, none⟩ = some (.int .i64 0)) (hg : g < w3.heap.size) :
  CallsD Tryz.prog 54 #[.pointer (some ⟨g, 0, none⟩)] .returning w3 fun e u' w' => u' = .returning ∧ e = .returned (.tuple #[]) ∧ GoneAt w' g ∧ Free w' g ∧ Fr w3 w' [g] := by
 obtain ⟨x2, c2⟩ := cell_of_there hr 2 (by decide)
 obtain ⟨x3, c3⟩ := cell_of_there hr 3 (by decide)
 have z0 := (hr 0 (by decide)).2
 have z4 := (hr 4 (by decide)).2
 refine (wunlock_deferred rwWLib g 0 x2 x3 .returning w3 h0 c2 c3 h4 z0 z4).mono ?_
 rintro e u' w' ⟨rfl, rfl, hw⟩
 subst hw
 have f1 : Fr w3 (w3.setCell ⟨g, 4, none⟩ (.int .i32 0)) [g] := set_fr _ _ _ _
 have f2 := f1.trans (set_fr (w3.setCell ⟨g, 4, none⟩ (.int .i32 0)) g 0 (.int .i32 0))
 have hr1 : (w3.setCell ⟨g, 4, none⟩ (.int .i32 0)).there g 0 1091 := World.there_setCells hr g 4 [_]
 have hr2 : ((w3.setCell ⟨g, 4, none⟩ (.int .i32 0)).setCell ⟨g, 0, none⟩ (.int .i32 0)).there g 0 1091 := World.there_setCells hr1 g 0 [_]
 refine ⟨rfl, rfl, ⟨hr2, Nat.lt_of_lt_of_le hg f2.size, ?_, ?_⟩, ?_, f2⟩
 ·rw [show (w3.setCell ⟨g, 0 + 4, none⟩ (.int .i32 0)) = w3.setCell ⟨g, 4, none⟩ (.int .i32 0) from rfl]; rw [setCell_at _ _ _ _ _ (by omega)]
  exact World.cell?_setCell_same' _ _ _ (by rw [h4]; rfl)
 ·rw [setCell_at _ _ _ _ _ (by omega), setCell_at _ _ _ _ _ (by omega)]
  exact h6
 ·exact World.cell?_setCell_same' _ _ _ (by rw [setCell_at _ _ _ _ _ (by omega), h0]; rfl)
theorem zb48 : Tryz.prog.built 48 [] = some Tryz.zeroCells48 := by kernel_rfl
theorem zfirst48 : Tryz.zeroCells48[0]? = some (.int .i64 0) := by kernel_rfl
theorem there_mid' {w : World} {s b : Nat} (h : w.there s 0 b) (o n : Nat) (hl : o + n ≤ b) : w.there s o n := fun j hj => by
 have := h (o + j) (by omega)
 rwa [Nat.zero_add] at this
set_option maxHeartbeats 1600000 in
set_option maxRecDepth 100000 in
theorem wipe_gone (g : Nat) (w : World) (h : GoneAt w g) (hf : Free w g) : Calls Tryz.prog 25 #[.pointer (some ⟨g, 0, none⟩)] w fun e w' => e = .returned (.int .i64 21) ∧ GoneAt w' g ∧ Free w' g ∧ Fr w w' [g] := by
 have HR : Hid (w.there g 0 1091 ∧ g < w.heap.size) := ⟨h.room, h.lt⟩
 have h4 : w.cell? ⟨g, 4, none⟩ = some (.int .i32 0) := h.count
 obtain ⟨x2, c2⟩ := cell_of_there h.room 2 (by decide)
 obtain ⟨x3, c3⟩ := cell_of_there h.room 3 (by decide)
 have z0 := (h.room 0 (by decide)).2
 have z4 := (h.room 4 (by decide)).2
 have KL : Hid (Calls Tryz.prog 53 #[.pointer (some ⟨g, 0, none⟩)] w fun e w' => e = .returned (.tuple #[]) ∧ w' = (w.setCell ⟨g, 0, none⟩ (.int .i32 1)).setCell ⟨g, 4, none⟩ (.int .i32 (-1073741824))) := wlock_free rwWLib g 0 x2 x3 w hf c2 c3 h4 z0 z4
 have HT : Hid (Fr w ((w.setCell ⟨g, 0, none⟩ (.int .i32 1)).setCell ⟨g, 4, none⟩ (.int .i32 (-1073741824))) [g] ∧ ((w.setCell ⟨g, 0, none⟩ (.int .i32 1)).setCell ⟨g, 4, none⟩ (.int .i32 (-1073741824))).there g 0 1091 ∧ ((w.setCell ⟨g, 0, none⟩ (.int .i32 1)).setCell ⟨g, 4, none⟩ (.int .i32 (-1073741824))).cell? ⟨g, 0, none⟩ = some (.int .i32 1) ∧ ((w.setCell ⟨g, 0, none⟩ (.int .i32 1)).setCell ⟨g, 4, none⟩ (.int .i32 (-1073741824))).cell? ⟨g, 4, none⟩ = some (.int .i32 (-1073741824))) := by
  refine ⟨(set_fr w g 0 _).trans (set_fr _ g 4 _), World.there_setCells (World.there_setCells h.room g 0 [_]) g 4 [_], ?_, ?_⟩
  ·rw [setCell_at _ _ _ _ _ (by omega)]
   exact World.cell?_setCell_same' _ _ _ (by rw [show w.cell? ⟨g, 0, none⟩ = _ from hf]; rfl)
  ·exact World.cell?_setCell_same' _ _ _ (by rw [setCell_at _ _ _ _ _ (by omega), h4]; rfl)
 have c6 : ((w.setCell ⟨g, 0, none⟩ (.int .i32 1)).setCell ⟨g, 4, none⟩ (.int .i32 (-1073741824))).cell? ⟨g, 6, none⟩ = some (.int .i64 0) := by
  rw [setCell_at _ _ _ _ _ (by omega), setCell_at _ _ _ _ _ (by omega)]
  exact h.rounds
 generalize (w.setCell ⟨g, 0, none⟩ (.int .i32 1)).setCell ⟨g, 4, none⟩ (.int .i32 (-1073741824)) = v at KL HT c6
 clear c2 c3 z0 z4 h4 h hf
 go_enter_defers Tryz.func25, Tryz.ntmps25
 go_wp2_with (first | (go_at_call 53; refine KL.out.mono ?_))
 rintro e1 w1 ⟨rfl, hw1⟩
 obtain rfl := hw1.symm
 clear KL
 have H3 : Hid (Fr w v [g] ∧ v.there g 0 1091 ∧ v.cell? ⟨g, 0, none⟩ = some (.int .i32 1) ∧ v.cell? ⟨g, 4, none⟩ = some (.int .i32 (-1073741824)) ∧ v.cell? ⟨g, 6, none⟩ = some (.int .i64 0)) := ⟨HT.out.1, HT.out.2.1, HT.out.2.2.1, HT.out.2.2.2, c6⟩
 go_wp2_with fail
 refine leaves_cons (f := 54) (args := #[.pointer (some ⟨g, 0, none⟩)]) (by simp) (by simp [go_sem]) ?_
 refine (wlet H3.out.2.1 H3.out.2.2.1 H3.out.2.2.2.1 H3.out.2.2.2.2 (Nat.lt_of_lt_of_le HR.out.2 H3.out.1.size)).mono ?_
 rintro e5 u5 w5 ⟨rfl, rfl, h5, h6, h7⟩
 exact ⟨_, results_tmp rfl _ _ _, rfl, h5, h6, H3.out.1.trans h7⟩
set_option maxHeartbeats 1600000 in
set_option maxRecDepth 100000 in
theorem wipe_ok (g nr : Nat) (K : Nat → Nat) (w : World) (h : KeyAt w g nr K) (hf : Free w g) : Calls Tryz.prog 25 #[.pointer (some ⟨g, 0, none⟩)] w fun e w' => e = .returned (.int .i64 0) ∧ GoneAt w' g ∧ Free w' g ∧ Fr w w' [g] := by
 have HR : Hid (w.there g 0 1091 ∧ g < w.heap.size) := ⟨h.room, h.ciph.here⟩
 have h4 : w.cell? ⟨g, 4, none⟩ = some (.int .i32 0) := h.count
 obtain ⟨x2, c2⟩ := cell_of_there h.room 2 (by decide)
 obtain ⟨x3, c3⟩ := cell_of_there h.room 3 (by decide)
 have z0 := (h.room 0 (by decide)).2
 have z4 := (h.room 4 (by decide)).2
 have KL : Hid (Calls Tryz.prog 53 #[.pointer (some ⟨g, 0, none⟩)] w fun e w' => e = .returned (.tuple #[]) ∧ w' = (w.setCell ⟨g, 0, none⟩ (.int .i32 1)).setCell ⟨g, 4, none⟩ (.int .i32 (-1073741824))) := wlock_free rwWLib g 0 x2 x3 w hf c2 c3 h4 z0 z4
 have HT : Hid (Fr w ((w.setCell ⟨g, 0, none⟩ (.int .i32 1)).setCell ⟨g, 4, none⟩ (.int .i32 (-1073741824))) [g] ∧ ((w.setCell ⟨g, 0, none⟩ (.int .i32 1)).setCell ⟨g, 4, none⟩ (.int .i32 (-1073741824))).there g 0 1091 ∧ ((w.setCell ⟨g, 0, none⟩ (.int .i32 1)).setCell ⟨g, 4, none⟩ (.int .i32 (-1073741824))).cell? ⟨g, 0, none⟩ = some (.int .i32 1) ∧ ((w.setCell ⟨g, 0, none⟩ (.int .i32 1)).setCell ⟨g, 4, none⟩ (.int .i32 (-1073741824))).cell? ⟨g, 4, none⟩ = some (.int .i32 (-1073741824))) := by
  refine ⟨(set_fr w g 0 _).trans (set_fr _ g 4 _), World.there_setCells (World.there_setCells h.room g 0 [_]) g 4 [_], ?_, ?_⟩
  ·rw [setCell_at _ _ _ _ _ (by omega)]
   exact World.cell?_setCell_same' _ _ _ (by rw [show w.cell? ⟨g, 0, none⟩ = _ from hf]; rfl)
  ·exact World.cell?_setCell_same' _ _ _ (by rw [setCell_at _ _ _ _ _ (by omega), h4]; rfl)
 have c6 : ((w.setCell ⟨g, 0, none⟩ (.int .i32 1)).setCell ⟨g, 4, none⟩ (.int .i32 (-1073741824))).cell? ⟨g, 6, none⟩ = some (.int .i64 (nr : Nat)) := by
  rw [setCell_at _ _ _ _ _ (by omega), setCell_at _ _ _ _ _ (by omega)]
  exact h.ciph.rounds
 have hn : (((nr : Nat) : Int) == 0) = false := by have := h.ciph.some; simp; omega
 generalize (w.setCell ⟨g, 0, none⟩ (.int .i32 1)).setCell ⟨g, 4, none⟩ (.int .i32 (-1073741824)) = v at KL HT c6
 clear c2 c3 z0 z4 h4 h hf
 obtain ⟨Z, HZ⟩ : ∃ Z, Hid (Z = Tryz.zeroCells48) := ⟨_, rfl⟩
 have HZB : Hid (Tryz.prog.built 48 [] = some Z) := by show _ = _; rw [HZ.out]; exact zb48
 have HZS : Hid (Z.size = 1085) := by show _ = _; rw [HZ.out]; exact zero_size
 have HZ1 : Hid (Z.all (·.oneCell') = true) := by show _ = _; rw [HZ.out, ← Array.all_toList]; exact zero_one
 have HZ0 : Hid (Z[0]? = some (.int .i64 0)) := by show _ = _; rw [HZ.out]; exact zfirst48
 have HST : Hid (v.there g 6 Z.size ∧ (Tryz.prog.info? 48).map (·.size) = some Z.size) := by refine ⟨?_, ?_⟩; (rw [HZS.out]; exact there_mid' HT.out.2.1 6 1085 (by omega)); (rw [HZS.out]; exact size68)
 go_enter_defers Tryz.func25, Tryz.ntmps25
 go_wp2_with (first | (go_at_call 53; refine KL.out.mono ?_))
 rintro e1 w1 ⟨rfl, hw1⟩
 obtain rfl := hw1.symm
 clear KL
 go_wp2_with (first
  | (refine wpList_store_mid (by rfl) 48 (.tmp 21) (.tmp 19) (by rfl) g 6 Tryz.zeroCells48 (by rfl) (by rfl) (HZ.out ▸ HST.out.1) (HZ.out ▸ HST.out.2) (HZ.out ▸ HZ1.out) ?_)
  | fail)
 rw [← HZ.out]
 have H3 : Hid (Fr w (v.setCells g 6 Z.toList) [g] ∧ (v.setCells g 6 Z.toList).there g 0 1091 ∧ (v.setCells g 6 Z.toList).cell? ⟨g, 0, none⟩ = some (.int .i32 1) ∧ (v.setCells g 6 Z.toList).cell? ⟨g, 4, none⟩ = some (.int .i32 (-1073741824)) ∧ (v.setCells g 6 Z.toList).cell? ⟨g, 6, none⟩ = some (.int .i64 0)) := by
  obtain ⟨h1, h2, h3, h4⟩ := HT.out
  refine ⟨h1.trans (setCells_frG _ _ _ _), World.there_setCells h2 _ _ _, ?_, ?_, ?_⟩
  ·rw [World.cell?_setCells_out g Z.toList 6 v ⟨g, 0, none⟩ (fun _ _ => .inl (by show 0 < 6; omega))]; exact h3
  ·rw [World.cell?_setCells_out g Z.toList 6 v ⟨g, 4, none⟩ (fun _ _ => .inl (by show 4 < 6; omega))]; exact h4
  ·exact World.rangeAt_setCells_same _ _ _ _ (by rw [Array.length_toList]; exact HST.out.1) 0 _ (by rw [Array.getElem?_toList]; exact HZ0.out)
 generalize v.setCells g 6 Z.toList = w3 at H3 ⊢
 clear HT c6
 go_wp2_with fail
 refine leaves_cons (f := 54) (args := #[.pointer (some ⟨g, 0, none⟩)]) (by simp) (by simp [go_sem]) ?_
 refine (wlet H3.out.2.1 H3.out.2.2.1 H3.out.2.2.2.1 H3.out.2.2.2.2 (Nat.lt_of_lt_of_le HR.out.2 H3.out.1.size)).mono ?_
 rintro e5 u5 w5 ⟨rfl, rfl, h5, h6, h7⟩
 exact ⟨_, results_tmp rfl _ _ _, rfl, h5, h6, H3.out.1.trans h7⟩
end Go.Proofs.YtgmfiljjogdccabGreatDoor
namespace Go.Proofs.YtgmfiljjogdccabGreatDoor
open Go.RowKit Go.RwLone Go.Conc.Locks
set_option linter.unusedVariables false
set_option maxHeartbeats 1600000 in
set_option maxRecDepth 100000 in
theorem unwrap_mark (g nr n b po cap : Nat) (K : Nat → Nat) (f : Nat → Nat) (w : World) (h : KeyAt w g nr K) (hn : 2 ≤ n) (hm : n ≤ 512) (hcap : 8 + 8 * n ≤ cap) (hb : b < w.heap.size) (hbg : b ≠ g) (hp : ∀ i, i < 8 + 8 * n → w.cell? ⟨b, po + i, none⟩ = some (.int .u8 (f i : Nat))) (hf : ∀ i, f i < 256) (hbad : (aft (unStep nr K n) (6 * n) (un0 f)).1 ≠ 12008468691120727718) :
  Calls Tryz.prog 28 #[.pointer (some ⟨g, 0, none⟩), .slice (some ⟨b, po, none⟩) (8 + 8 * n) cap] w fun e w' => e = .returned (.tuple #[.slice none 0 0, .int .i64 22]) ∧ KeyAt w' g nr K ∧ Touch w w' g 4 1 := by
 have HK : Hid (KeyAt w g nr K) := h
 have HH : Hid (Calls Tryz.prog 41 #[.pointer (some ⟨g, 0, none⟩)] w fun e w' => e = .returned (.int .i64 0) ∧ w' = w.setCell ⟨g, 4, none⟩ (.int .i32 1)) := hold_ok g nr K w h
 have HG : Hid (g < w.heap.size) := h.ciph.here
 have HP : Hid (b < w.heap.size ∧ b ≠ g ∧ (∀ i, i < 8 + 8 * n → w.cell? ⟨b, po + i, none⟩ = some (.int .u8 (f i : Nat))) ∧ (∀ i, f i < 256) ∧ 8 + 8 * n ≤ cap) := ⟨hb, hbg, hp, hf, hcap⟩
 have HL : Hid (∀ u, Calls Tryz.prog 55 #[.int .i64 (8 + 8 * n : Nat), .int .i64 (24 : Nat), .int .i64 (4104 : Nat)] u fun e w' => e = .returned (.int .i64 0) ∧ w' = u) := fun u => checkLength_ok (8 + 8 * n) 24 4104 u (by omega) (by omega) (by omega) (by omega)
 obtain ⟨mk, HMK⟩ : ∃ x, Hid (x = (aft (unStep nr K n) (6 * n) (un0 f)).1) := ⟨_, rfl⟩
 have hmk : (((mk : Nat) : Int) != 12008468691120727718) = true := by have := HMK.out; simp; omega
 clear h hb hbg hp hf hbad
 obtain ⟨q, HQ⟩ : ∃ q, Hid (q = 8 * n) := ⟨_, rfl⟩
 obtain ⟨m, HM⟩ : ∃ m, Hid (m = 8 + q) := ⟨_, rfl⟩
 rw [← HQ.out, ← HM.out] at HL hcap
 rw [← HQ.out, ← HM.out]
 go_enter_defers Tryz.func28, Tryz.ntmps28
 go_wp2_with (first | (go_at_call 41; refine HH.out.mono ?_))
 rintro e1 w1 ⟨rfl, hw1⟩
 have H1 : Hid (Ciph w1 g 6 nr K ∧ Touch w w1 g 4 1 ∧ w1.cell? ⟨g, 4, none⟩ = some (.int .i32 1)) := held HK.out hw1
 clear hw1 HH
 go_wp2_with (first | (go_at_call 55; refine (HL.out _).mono ?_))
 rintro e2 w2 ⟨rfl, rfl⟩
 have HW : Hid (Calls Tryz.prog 58 #[.pointer (some ⟨g, 6, none⟩), .slice (some ⟨b, po, none⟩) m cap] w2 fun e w' => e = .returned (.tuple #[.slice (some ⟨w2.heap.size, 0, none⟩) q q, .int .u64 (mk : Nat)]) ∧ Halves w' w2.heap.size 0 n (aft (unStep nr K n) (6 * n) (un0 f)).2 ∧ Below w2.heap.size w2 w') := by
  rw [HM.out, HQ.out]
  obtain ⟨p1, p2, p3, p4, p5⟩ := HP.out
  have h := unwrap_ok g 6 nr n b po cap K f w2 H1.out.1 (by omega) (by omega) p5 (Nat.lt_of_lt_of_le p1 H1.out.2.1.size) (fun i hi => (H1.out.2.1.far p1 p2).trans (p3 i hi)) p4
  rw [← HMK.out] at h
  exact h
 go_wp2_with (first | (go_at_call 58; refine HW.out.mono ?_))
 rintro e3 w3 ⟨rfl, hh3, hb3⟩
 have H3 : Hid (Halves w3 w2.heap.size 0 n (aft (unStep nr K n) (6 * n) (un0 f)).2 ∧ Touch w w3 g 4 1 ∧ w3.cell? ⟨g, 4, none⟩ = some (.int .i32 1)) :=
  ⟨hh3, H1.out.2.1.below hb3 HG.out, (hb3.cell H1.out.1.here).trans H1.out.2.2⟩
 clear hh3 hb3
 go_wp2_with fail
 refine leaves_cons (f := 42) (args := #[.pointer (some ⟨g, 0, none⟩)]) (by simp) (by simp [go_sem]) ?_
 refine (unlocked HK.out H3.out.2.1 H3.out.2.2).mono ?_
 rintro e5 u5 w5 ⟨rfl, rfl, hk5, ht5, hw5⟩
 exact ⟨_, results_tmp2 rfl _ _ _, rfl, hk5, ht5⟩
end Go.Proofs.YtgmfiljjogdccabGreatDoor
