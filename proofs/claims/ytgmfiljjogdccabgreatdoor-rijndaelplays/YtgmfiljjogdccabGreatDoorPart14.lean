import Derived.Test.YtgmfiljjogdccabGreatDoorPart06
import Derived.Test.YtgmfiljjogdccabGreatDoorPart00
import Derived.Test.YtgmfiljjogdccabGreatDoorEnc
import Derived.Test.YtgmfiljjogdccabGreatDoorPart11
import Derived.Conc.RwLone
import Derived.Defers
import Derived.Test.YtgmfiljjogdccabGreatDoorBkd
import Derived.Laws.ResultCell
namespace Go.Proofs.YtgmfiljjogdccabGreatDoor
open Go.RowKit
set_option linter.unusedVariables false
/-- The first k bytes as a number. -/
def numK (f : Nat → Nat) : Nat → Nat
 | 0 => 0
 | k + 1 => numK f k * 256 + f k
theorem numK_lt {f : Nat → Nat} (hf : ∀ i, f i < 256) : ∀ k, numK f k < 256 ^ k
 | 0 => by show 0 < _; decide
 | k + 1 => by have h1 := numK_lt hf k; have h2 := hf k; unfold numK; rw [Nat.pow_succ]; omega
theorem wraps_u64 (n : Int) (h₀ : 0 ≤ n) (h₁ : n < 2 ^ 64) : IntKind.u64.wrap n = n := by simp [IntKind.wrap, IntKind.bits, IntKind.signed]; omega
theorem joins64 (x y : Nat) (hx1 : x < 72057594037927936) (hy : y < 256) : bits .or .u64 ((x : Int) * 256) (y : Int) = ((x * 256 + y : Nat) : Int) := by
 have := bits_join .u64 64 (by decide) wraps_u64 8 ((x : Int) * 256) (y : Int) (by omega) (by omega) (by omega) (by omega) (by omega) (by omega)
 rw [this]
 omega
set_option maxHeartbeats 800000 in
set_option maxRecDepth 100000 in
theorem number_ok (b o n cap : Nat) (f : Nat → Nat) (w : World) (h8 : 8 ≤ n) (hnc : n ≤ cap) (hc : ∀ i, i < 8 → w.cell? ⟨b, o + i, none⟩ = some (.int .u8 (f i : Nat))) (hf : ∀ i, f i < 256) :
  Calls Tryz.prog 88 #[.slice (some ⟨b, o, none⟩) n cap] w fun e w' => e = .returned (.int .u64 (numK f 8 : Nat)) ∧ w' = w := by
 have HC : Hid (∀ i, i < 8 → w.cell? ⟨b, o + i, none⟩ = some (.int .u8 (f i : Nat))) := hc
 have HF : Hid (∀ i, f i < 256) := hf
 have hcap : (8 : Int) ≤ (cap : Nat) := by omega
 clear hc hf
 go_enter Tryz.func88, Tryz.ntmps88
 go_wp2
 go_loopw [3, 9] (fun vn i wr => ∃ k : Nat, k ≤ 8 ∧ i = .int .i64 k ∧ vn = .int .u64 (numK f k : Nat) ∧ wr = w) (fun _ i _ => 8 - (intOf i).toNat)
 case atStart => exact ⟨0, by omega, rfl, rfl, rfl⟩
 case round =>
  obtain ⟨k, hk, rfl, rfl, hw⟩ := hrel
  obtain rfl := hw.symm
  by_cases hlt : k < 8
  ·have ck := HC.out k hlt
   obtain ⟨x, HX⟩ : ∃ x, Hid (x = numK f k) := ⟨_, rfl⟩
   obtain ⟨y, HY⟩ : ∃ x, Hid (x = f k) := ⟨_, rfl⟩
   rw [← HX.out]
   rw [← HY.out] at ck
   have hy : y < 256 := by rw [HY.out]; exact HF.out k
   have hx : x < 72057594037927936 := by
    have h1 := numK_lt HF.out k
    have h2 : 256 ^ k ≤ 256 ^ 7 := Nat.pow_le_pow_right (by decide) (by omega)
    rw [← HX.out] at h1
    have h3 : (256 : Nat) ^ 7 = 72057594037927936 := by decide
    omega
   go_wp2
   refine ⟨⟨k + 1, by omega, rfl, ?_, trivial⟩, ?_⟩
   ·refine val_eq ?_
    show _ = ((numK f k * 256 + f k : Nat) : Int)
    rw [← HX.out, ← HY.out]
    exact joins64 x y hx hy
   ·simp only [intOf]; omega
  ·obtain rfl : k = 8 := by omega
   go_wp2
   go_ret
   exact ⟨rfl, rfl⟩
/-- The bytes of a number, highest first. -/
def byteK (n k : Nat) : Nat := n / 256 ^ (7 - k) % 256
theorem byteK_lt (n k : Nat) : byteK n k < 256 := Nat.mod_lt _ (by decide)
set_option maxHeartbeats 800000 in
set_option maxRecDepth 100000 in
theorem put_ok (b o n cap m : Nat) (w : World) (h8 : 8 ≤ n) (hm : m < 18446744073709551616) (ht : w.there b o 8) :
  Calls Tryz.prog 89 #[.slice (some ⟨b, o, none⟩) n cap, .int .u64 (m : Nat)] w fun e w' => e = .returned (.tuple #[]) ∧ Touch w w' b o 8 ∧ ∀ k, k < 8 → w'.cell? ⟨b, o + k, none⟩ = some (.int .u8 (byteK m k : Nat)) := by
 have HT : Hid (w.there b o 8) := ht
 have hni : (8 : Int) ≤ (n : Nat) := by omega
 clear ht h8
 go_enter Tryz.func89, Tryz.ntmps89
 go_wp2
 go_loopw [1, 4] (fun vn i wr => ∃ j : Nat, j ≤ 8 ∧ i = .int .i64 ((j : Int) - 1) ∧ vn = .int .u64 (m / 256 ^ (8 - j) : Nat) ∧ Hid (Touch w wr b o 8 ∧ ∀ k, j ≤ k → k < 8 → wr.cell? ⟨b, o + k, none⟩ = some (.int .u8 (byteK m k : Nat)))) (fun _ i _ => (intOf i + 1).toNat)
 case atStart => exact ⟨8, Nat.le_refl _, rfl, by simp, Touch.refl _ _ _ _, fun k h1 h2 => by omega⟩
 case round =>
  obtain ⟨j, hj, rfl, rfl, HR⟩ := hrel
  cases j with
  | zero =>
   go_wp2
   go_end0
   exact ⟨rfl, HR.out.1, fun k hk => HR.out.2 k (Nat.zero_le _) hk⟩
  | succ q =>
   have hq1 : (((q + 1 : Nat) : Int) - 1) = (q : Nat) := by omega
   rw [hq1]
   obtain ⟨x, HX⟩ : ∃ x, Hid (x = m / 256 ^ (8 - (q + 1))) := ⟨_, rfl⟩
   rw [← HX.out]
   have hqn : ((q : Nat) : Int) < (n : Nat) := by omega
   have hq8 : ((q : Nat) : Int) < 8 := by omega
   have t := HR.out.1.there _ _ HT.out q (by omega)
   obtain ⟨t1, t2⟩ := t
   obtain ⟨v, c1⟩ := Option.isSome_iff_exists.1 t1
   clear t1
   go_wp2
   refine ⟨⟨q, by omega, rfl, val_eq ?_, ?_⟩, ?_⟩
   ·have e : m / 256 ^ (8 - q) = x / 256 := by
     rw [HX.out, Nat.div_div_eq_div_mul, ← Nat.pow_succ]
     rw [show (8 - (q + 1)).succ = 8 - q by omega]
    rw [e]
    omega
   ·refine ⟨HR.out.1.setCell (o + q) _ (by omega) (by omega), fun k h1 h2 => ?_⟩
    by_cases hkq : k = q
    ·subst hkq
     have hv : ((x : Int) % 256) = ((byteK m k : Nat) : Int) := by
      unfold byteK
      rw [HX.out, show 8 - (k + 1) = 7 - k by omega]
      omega
     rw [World.cell?_setCell_same' _ _ _ (by rw [c1]; rfl), hv]
    ·rw [World.cell?_setCell_other _ ⟨b, o + q, none⟩ ⟨b, o + k, none⟩ _ (fun e => hkq (by simp at e <;> omega))]
     exact HR.out.2 k (by omega) h2
   ·simp only [intOf]; omega
theorem numK_word (f : Nat → Nat) : numK f 8 = wd (f 0) (f 1) (f 2) (f 3) * 4294967296 + wd (f 4) (f 5) (f 6) (f 7) := by
 simp only [numK, wd]
 omega
theorem halves_at (b : Nat) (s : W4) (hs : s.ok) (w : World) (hr : w.rangeAt b 0 [.int .u8 (bt0 s.a : Nat), .int .u8 (bt1 s.a : Nat), .int .u8 (bt2 s.a : Nat), .int .u8 (bt3 s.a : Nat), .int .u8 (bt0 s.b : Nat), .int .u8 (bt1 s.b : Nat), .int .u8 (bt2 s.b : Nat), .int .u8 (bt3 s.b : Nat), .int .u8 (bt0 s.c : Nat), .int .u8 (bt1 s.c : Nat), .int .u8 (bt2 s.c : Nat), .int .u8 (bt3 s.c : Nat), .int .u8 (bt0 s.d : Nat), .int .u8 (bt1 s.d : Nat), .int .u8 (bt2 s.d : Nat), .int .u8 (bt3 s.d : Nat)]) :
  (∀ u, Below (b + 1) w u → Calls Tryz.prog 88 #[.slice (some ⟨b, 0, none⟩) 8 16] u fun e u' => e = .returned (.int .u64 (s.a * 4294967296 + s.b : Nat)) ∧ u' = u) ∧
  (∀ u, Below (b + 1) w u → Calls Tryz.prog 88 #[.slice (some ⟨b, 8, none⟩) 8 8] u fun e u' => e = .returned (.int .u64 (s.c * 4294967296 + s.d : Nat)) ∧ u' = u) := by
 refine ⟨fun u hu => ?_, fun u hu => ?_⟩
 ·have h := number_ok b 0 8 16 (fun i => if i = 0 then bt0 s.a else if i = 1 then bt1 s.a else if i = 2 then bt2 s.a else if i = 3 then bt3 s.a else if i = 4 then bt0 s.b else if i = 5 then bt1 s.b else if i = 6 then bt2 s.b else bt3 s.b) u (Nat.le_refl _) (by decide) (fun i hi => by
   rw [hu.cell (p := ⟨b, 0 + i, none⟩) (Nat.lt_succ_self b)]
   have h8 : i = 0 ∨ i = 1 ∨ i = 2 ∨ i = 3 ∨ i = 4 ∨ i = 5 ∨ i = 6 ∨ i = 7 := by omega
   rcases h8 with rfl | rfl | rfl | rfl | rfl | rfl | rfl | rfl <;> exact hr _ _ rfl) (fun i => by
   have := bt0_lt s.a; have := bt1_lt s.a; have := bt2_lt s.a; have := bt3_lt s.a; have := bt0_lt s.b; have := bt1_lt s.b; have := bt2_lt s.b; have := bt3_lt s.b
   repeat' split
   all_goals assumption)
  rw [numK_word] at h
  simp only [if_true, reduceIte, Nat.reduceEqDiff] at h
  rw [wd_bt hs.1, wd_bt hs.2.1] at h
  exact h
 ·have h := number_ok b 8 8 8 (fun i => if i = 0 then bt0 s.c else if i = 1 then bt1 s.c else if i = 2 then bt2 s.c else if i = 3 then bt3 s.c else if i = 4 then bt0 s.d else if i = 5 then bt1 s.d else if i = 6 then bt2 s.d else bt3 s.d) u (Nat.le_refl _) (by decide) (fun i hi => by
   rw [hu.cell (p := ⟨b, 8 + i, none⟩) (Nat.lt_succ_self b)]
   have h8 : i = 0 ∨ i = 1 ∨ i = 2 ∨ i = 3 ∨ i = 4 ∨ i = 5 ∨ i = 6 ∨ i = 7 := by omega
   have hr' := fun j v hv => (by simpa using hr (8 + j) v hv : w.cell? ⟨b, 8 + j, none⟩ = some v)
   rcases h8 with rfl | rfl | rfl | rfl | rfl | rfl | rfl | rfl <;> exact hr' _ _ rfl) (fun i => by
   have := bt0_lt s.c; have := bt1_lt s.c; have := bt2_lt s.c; have := bt3_lt s.c; have := bt0_lt s.d; have := bt1_lt s.d; have := bt2_lt s.d; have := bt3_lt s.d
   repeat' split
   all_goals assumption)
  rw [numK_word] at h
  simp only [if_true, reduceIte, Nat.reduceEqDiff] at h
  rw [wd_bt hs.2.2.1, wd_bt hs.2.2.2] at h
  exact h
end Go.Proofs.YtgmfiljjogdccabGreatDoor
namespace Go.Proofs.YtgmfiljjogdccabGreatDoor
open Go.RowKit Go.RwLone
set_option linter.unusedVariables false
theorem touch_new {w v : World} {g o n : Nat} (h : Touch w v g o n) {b : Nat} (hb : w.heap.size ≤ b) (vs : List Value) (o' : Nat) (hg : g < w.heap.size) : Touch w (v.setCells b o' vs) g o n :=
 ⟨by rw [setCells_os]; exact h.os, by rw [setCells_tape]; exact h.tape, by rw [setCells_output]; exact h.output, by rw [sizeB_setCells]; exact h.size,
  fun k hk hne => by rw [World.heap_setCells_other v b o' vs (by have := h.size; omega) (by omega)]; exact h.block k hk hne,
  fun j hj => by rw [World.cell?_setCells_out b vs o' v ⟨g, j, none⟩ (fun e _ => absurd e (by simp; omega))]; exact h.cell j hj,
  fun o2 n2 ht => World.there_setCells (h.there o2 n2 ht) b o' vs⟩
theorem KeyAt.touch {w w' : World} {g nr : Nat} {K : Nat → Nat} (h : KeyAt w g nr K) (ht : Touch w w' g 4 1) (hc : w'.cell? ⟨g, 4, none⟩ = some (.int .i32 0)) : KeyAt w' g nr K := by
 refine ⟨⟨(ht.cell 6 (by omega)).trans h.ciph.rounds, fun i hi => (ht.cell (6 + 1 + i) (by omega)).trans (h.ciph.words i hi), h.ciph.small, ⟨fun b hb => (ht.cell _ (by omega)).trans (h.ciph.tab.s b hb), fun b hb => (ht.cell _ (by omega)).trans (h.ciph.tab.u b hb), fun b hb => (ht.cell _ (by omega)).trans (h.ciph.tab.m b hb), fun b hb => (ht.cell _ (by omega)).trans (h.ciph.tab.n b hb)⟩, Nat.lt_of_lt_of_le h.ciph.here ht.size, h.ciph.some, h.ciph.most⟩, hc, ht.there _ _ h.room⟩
/-- While a call holds the key. -/
theorem held_ciph {w : World} {g nr : Nat} {K : Nat → Nat} (h : KeyAt w g nr K) (c : Int) : Ciph (w.setCell ⟨g, 4, none⟩ (.int .i32 c)) g 6 nr K := by
 have ht : Touch w (w.setCell ⟨g, 4, none⟩ (.int .i32 c)) g 4 1 := (Touch.refl w g 4 1).setCell 4 _ (by omega) (by omega)
 exact ⟨(ht.cell 6 (by omega)).trans h.ciph.rounds, fun i hi => (ht.cell (6 + 1 + i) (by omega)).trans (h.ciph.words i hi), h.ciph.small, ⟨fun b hb => (ht.cell _ (by omega)).trans (h.ciph.tab.s b hb), fun b hb => (ht.cell _ (by omega)).trans (h.ciph.tab.u b hb), fun b hb => (ht.cell _ (by omega)).trans (h.ciph.tab.m b hb), fun b hb => (ht.cell _ (by omega)).trans (h.ciph.tab.n b hb)⟩, Nat.lt_of_lt_of_le h.ciph.here ht.size, h.ciph.some, h.ciph.most⟩
theorem cell_of_there {w : World} {g o n : Nat} (h : w.there g o n) (j : Nat) (hj : j < n) : ∃ v, w.cell? ⟨g, o + j, none⟩ = some v := Option.isSome_iff_exists.1 (h j hj).1
set_option maxHeartbeats 1600000 in
set_option maxRecDepth 100000 in
theorem hold_ok (g nr : Nat) (K : Nat → Nat) (w : World) (h : KeyAt w g nr K) : Calls Tryz.prog 41 #[.pointer (some ⟨g, 0, none⟩)] w fun e w' => e = .returned (.int .i64 0) ∧ w' = w.setCell ⟨g, 4, none⟩ (.int .i32 1) := by
 obtain ⟨x0, c0⟩ := cell_of_there h.room 0 (by decide)
 obtain ⟨x3, c3⟩ := cell_of_there h.room 3 (by decide)
 have hz := (h.room 4 (by decide)).2
 have hc := h.count
 have KL : Hid (Calls Tryz.prog 65 #[.pointer (some ⟨g, 0, none⟩)] w fun e w' => e = .returned (.tuple #[]) ∧ w' = w.setCell ⟨g, 4, none⟩ (.int .i32 1))  := by
  have h := rlock_open rwRLib g 0 0 x0 x3 w c0 c3 hc hz (by decide +kernel)
  rw [show wrap32 (0 + 1) = 1 by decide +kernel] at h
  exact h
 have cr : (w.setCell ⟨g, 4, none⟩ (.int .i32 1)).cell? ⟨g, 6, none⟩ = some (.int .i64 (nr : Nat)) := (held_ciph h 1).rounds
 have hn : (((nr : Nat) : Int) == 0) = false := by have := h.ciph.some; simp; omega
 clear c0 c3 hz hc h
 go_enter Tryz.func41, Tryz.ntmps41
 go_wp2_with (first | (go_at_call 65; refine KL.out.mono ?_))
 rintro e1 w1 ⟨rfl, hw1⟩
 obtain rfl := hw1.symm
 go_wp2
 go_ret
 exact ⟨rfl, rfl⟩
theorem hold_nil (w : World) : Calls Tryz.prog 41 #[.pointer none] w fun e w' => e = .returned (.int .i64 1) ∧ w' = w := by
 go_enter Tryz.func41, Tryz.ntmps41
 go_wp2
 go_ret
 exact ⟨rfl, rfl⟩
end Go.Proofs.YtgmfiljjogdccabGreatDoor
namespace Go.Proofs.YtgmfiljjogdccabGreatDoor
open Go.RowKit Go.RwLone
set_option linter.unusedVariables false
/-- The key is let go. -/
theorem unlocked {w w3 : World} {g nr : Nat} {K : Nat → Nat} (hk : KeyAt w g nr K) (ht : Touch w w3 g 4 1) (hc : w3.cell? ⟨g, 4, none⟩ = some (.int .i32 1)) :
  CallsD Tryz.prog 42 #[.pointer (some ⟨g, 0, none⟩)] .returning w3 fun e u' w' => u' = .returning ∧ e = .returned (.tuple #[]) ∧ KeyAt w' g nr K ∧ Touch w w' g 4 1 ∧ w' = w3.setCells g 4 [.int .i32 0] := by
 have hroom : w3.there g 0 1091 := ht.there _ _ hk.room
 obtain ⟨x0, c0⟩ := cell_of_there hroom 0 (by decide)
 obtain ⟨x2, c2⟩ := cell_of_there hroom 2 (by decide)
 have hz := (hroom 4 (by decide)).2
 refine (runlock_deferred rwRLib g 0 1 x0 x2 .returning w3 c0 c2 hc hz (by decide +kernel)).mono ?_
 rintro e u' w' ⟨rfl, rfl, hw⟩
 rw [show wrap32 (1 + -1) = 0 by decide +kernel] at hw
 have hw' : w' = w3.setCells g 4 [.int .i32 0] := hw
 have ht' : Touch w w' g 4 1 := by rw [hw']; exact ht.setCells 4 _ (by omega) (by simp)
 have hc' : w'.cell? ⟨g, 4, none⟩ = some (.int .i32 0) := by
  rw [hw]
  exact World.cell?_setCell_same' _ _ _ (by rw [show (0 + 4) = 4 from rfl, hc]; rfl)
 exact ⟨rfl, rfl, hk.touch ht' hc', ht', hw'⟩
theorem held {w w1 : World} {g nr : Nat} {K : Nat → Nat} (h : KeyAt w g nr K) (hw : w1 = w.setCell ⟨g, 4, none⟩ (.int .i32 1)) : Ciph w1 g 6 nr K ∧ Touch w w1 g 4 1 ∧ w1.cell? ⟨g, 4, none⟩ = some (.int .i32 1) := by
 rw [hw]
 refine ⟨held_ciph h 1, (Touch.refl _ g 4 1).setCell 4 _ (by omega) (by omega), ?_⟩
 have := (h.room 4 (by decide)).1
 exact World.cell?_setCell_same' _ _ _ (by simpa using this)
set_option maxHeartbeats 1600000 in
set_option maxRecDepth 100000 in
theorem size_ok (g nr : Nat) (K : Nat → Nat) (w : World) (h : KeyAt w g nr K) (h6 : 6 ≤ nr) : Calls Tryz.prog 30 #[.pointer (some ⟨g, 0, none⟩)] w fun e w' => e = .returned (.int .i64 (4 * (nr - 6) : Nat)) ∧ KeyAt w' g nr K ∧ Touch w w' g 4 1 := by
 have HK : Hid (KeyAt w g nr K) := h
 have HH : Hid (Calls Tryz.prog 41 #[.pointer (some ⟨g, 0, none⟩)] w fun e w' => e = .returned (.int .i64 0) ∧ w' = w.setCell ⟨g, 4, none⟩ (.int .i32 1)) := hold_ok g nr K w h
 have h14 := h.ciph.most
 clear h
 go_enter_defers Tryz.func30, Tryz.ntmps30
 go_wp2_with (first | (go_at_call 41; refine HH.out.mono ?_))
 rintro e1 w1 ⟨rfl, hw1⟩
 have H1 : Hid (Ciph w1 g 6 nr K ∧ Touch w w1 g 4 1 ∧ w1.cell? ⟨g, 4, none⟩ = some (.int .i32 1)) := held HK.out hw1
 clear hw1 HH
 have cr : w1.cell? ⟨g, 6, none⟩ = some (.int .i64 (nr : Nat)) := H1.out.1.rounds
 go_wp2_with fail
 refine leaves_cons (f := 42) (args := #[.pointer (some ⟨g, 0, none⟩)]) (by simp) (by simp [go_sem]) ?_
 refine (unlocked HK.out H1.out.2.1 H1.out.2.2).mono ?_
 rintro e5 u5 w5 ⟨rfl, rfl, hk5, ht5, _⟩
 refine ⟨_, results_tmp rfl _ _ _, ?_, hk5, ht5⟩
 show Ending.returned (.int .i64 (4 * ((nr : Int) - 6))) = _
 exact ret_int (by omega)
set_option maxHeartbeats 1600000 in
set_option maxRecDepth 100000 in
theorem rounds_ok (g nr : Nat) (K : Nat → Nat) (w : World) (h : KeyAt w g nr K) : Calls Tryz.prog 31 #[.pointer (some ⟨g, 0, none⟩)] w fun e w' => e = .returned (.int .i64 (nr : Nat)) ∧ KeyAt w' g nr K ∧ Touch w w' g 4 1 := by
 have HK : Hid (KeyAt w g nr K) := h
 have HH : Hid (Calls Tryz.prog 41 #[.pointer (some ⟨g, 0, none⟩)] w fun e w' => e = .returned (.int .i64 0) ∧ w' = w.setCell ⟨g, 4, none⟩ (.int .i32 1)) := hold_ok g nr K w h
 clear h
 go_enter_defers Tryz.func31, Tryz.ntmps31
 go_wp2_with (first | (go_at_call 41; refine HH.out.mono ?_))
 rintro e1 w1 ⟨rfl, hw1⟩
 have H1 : Hid (Ciph w1 g 6 nr K ∧ Touch w w1 g 4 1 ∧ w1.cell? ⟨g, 4, none⟩ = some (.int .i32 1)) := held HK.out hw1
 clear hw1 HH
 have cr : w1.cell? ⟨g, 6, none⟩ = some (.int .i64 (nr : Nat)) := H1.out.1.rounds
 go_wp2_with fail
 refine leaves_cons (f := 42) (args := #[.pointer (some ⟨g, 0, none⟩)]) (by simp) (by simp [go_sem]) ?_
 refine (unlocked HK.out H1.out.2.1 H1.out.2.2).mono ?_
 rintro e5 u5 w5 ⟨rfl, rfl, hk5, ht5, _⟩
 exact ⟨_, results_tmp rfl _ _ _, rfl, hk5, ht5⟩
end Go.Proofs.YtgmfiljjogdccabGreatDoor
namespace Go.Proofs.YtgmfiljjogdccabGreatDoor
open Go.RowKit
set_option linter.unusedVariables false
theorem ret_array_tmp {P : Program} {fn : Func} {p t : Tmp} {ty : TypeId} {d : TypeDesc} {Q : Ending → World → Prop} {tmps : Array Value} {w : World} {b : Nat} (cs : List Value) (x : Value) (h : fn.results = #[.cell p ty, .tmp t])
  (hp : tmps.getD p undef = .pointer (some ⟨b, 0, none⟩)) (ht : tmps.getD t undef = x) (hr : w.rangeAt b 0 cs) (hu : P.underlying ty = some d) (hd : d.isRow = true) (hi : (P.info? ty).map (·.size) = some cs.length)
  (hq : Q (.returned (.tuple #[.agg cs.toArray, x])) w) : bodyPost P fn Q .ret ⟨tmps, []⟩ w := by
 refine bodyPost_ret (v := .tuple #[.agg cs.toArray, x]) ?_ rfl hq
 rw [results_cell_tmp h]
 have hl := run_loadVar_mid (P := P) w b 0 ty cs d hr hu hd hi
 simp [hp, ht, asAddr, hl]
set_option maxHeartbeats 1600000 in
set_option maxRecDepth 100000 in
theorem kenc_nil (f : Nat → Nat) (w : World) : Calls Tryz.prog 21 #[.pointer none, .agg (arA f)] w fun e w' => e = .returned (.tuple #[.agg z16, .int .i64 1]) ∧ Below w.heap.size w w' := by
 have K1 : Hid (∀ u, Calls Tryz.prog 41 #[.pointer none] u fun e w' => e = .returned (.int .i64 1) ∧ w' = u) := hold_nil
 have HI : Hid (Below w.heap.size w _ ∧ Ar _ w.heap.size f ∧ Ar _ (w.heap.size + 1) zero8) := ar_two w f 38 38
 unfold arA z16 at HI
 unfold arA z16
 go_enter Tryz.func21, Tryz.ntmps21
 go_upto_region 1 with fail
 generalize ((w.alloc (.cells #[.int .u8 (f 0 : Nat), .int .u8 (f 1 : Nat), .int .u8 (f 2 : Nat), .int .u8 (f 3 : Nat), .int .u8 (f 4 : Nat), .int .u8 (f 5 : Nat), .int .u8 (f 6 : Nat), .int .u8 (f 7 : Nat), .int .u8 (f 8 : Nat), .int .u8 (f 9 : Nat), .int .u8 (f 10 : Nat), .int .u8 (f 11 : Nat), .int .u8 (f 12 : Nat), .int .u8 (f 13 : Nat), .int .u8 (f 14 : Nat), .int .u8 (f 15 : Nat)] 38)).alloc (.cells #[.int .u8 0, .int .u8 0, .int .u8 0, .int .u8 0, .int .u8 0, .int .u8 0, .int .u8 0, .int .u8 0, .int .u8 0, .int .u8 0, .int .u8 0, .int .u8 0, .int .u8 0, .int .u8 0, .int .u8 0, .int .u8 0] 38)) = w2 at HI ⊢
 go_wp2_with (first | (go_at_call 41; (refine (K1.out _).mono ?_); (rintro e2 w2 ⟨rfl, hw2⟩; obtain rfl := hw2.symm)) | (refine wpList_store_mid (by rfl) 38 (.tmp 4) (.tmp 11) (by rfl) (w.heap.size + 1) 0 #[.int .u8 0, .int .u8 0, .int .u8 0, .int .u8 0, .int .u8 0, .int .u8 0, .int .u8 0, .int .u8 0, .int .u8 0, .int .u8 0, .int .u8 0, .int .u8 0, .int .u8 0, .int .u8 0, .int .u8 0, .int .u8 0] (by rfl) (by rfl) HI.out.2.2.t size42 (by kernel_rfl) ?_))
 refine ret_array_tmp (#[.int .u8 0, .int .u8 0, .int .u8 0, .int .u8 0, .int .u8 0, .int .u8 0, .int .u8 0, .int .u8 0, .int .u8 0, .int .u8 0, .int .u8 0, .int .u8 0, .int .u8 0, .int .u8 0, .int .u8 0, .int .u8 0]).toList (.int .i64 1) Tryz.results21 rfl rfl ?_ Tryz.underlying38 rfl size42 ⟨rfl, ?_⟩
 ·exact World.rangeAt_setCells_same _ _ _ _ HI.out.2.2.t
 ·exact belowB_setCells _ (Nat.le_succ _) _ _ _ HI.out.1
set_option maxHeartbeats 1600000 in
set_option maxRecDepth 100000 in
theorem kdec_nil (f : Nat → Nat) (w : World) : Calls Tryz.prog 22 #[.pointer none, .agg (arA f)] w fun e w' => e = .returned (.tuple #[.agg z16, .int .i64 1]) ∧ Below w.heap.size w w' := by
 have K1 : Hid (∀ u, Calls Tryz.prog 41 #[.pointer none] u fun e w' => e = .returned (.int .i64 1) ∧ w' = u) := hold_nil
 have HI : Hid (Below w.heap.size w _ ∧ Ar _ w.heap.size f ∧ Ar _ (w.heap.size + 1) zero8) := ar_two w f 38 38
 unfold arA z16 at HI
 unfold arA z16
 go_enter Tryz.func22, Tryz.ntmps22
 go_upto_region 1 with fail
 generalize ((w.alloc (.cells #[.int .u8 (f 0 : Nat), .int .u8 (f 1 : Nat), .int .u8 (f 2 : Nat), .int .u8 (f 3 : Nat), .int .u8 (f 4 : Nat), .int .u8 (f 5 : Nat), .int .u8 (f 6 : Nat), .int .u8 (f 7 : Nat), .int .u8 (f 8 : Nat), .int .u8 (f 9 : Nat), .int .u8 (f 10 : Nat), .int .u8 (f 11 : Nat), .int .u8 (f 12 : Nat), .int .u8 (f 13 : Nat), .int .u8 (f 14 : Nat), .int .u8 (f 15 : Nat)] 38)).alloc (.cells #[.int .u8 0, .int .u8 0, .int .u8 0, .int .u8 0, .int .u8 0, .int .u8 0, .int .u8 0, .int .u8 0, .int .u8 0, .int .u8 0, .int .u8 0, .int .u8 0, .int .u8 0, .int .u8 0, .int .u8 0, .int .u8 0] 38)) = w2 at HI ⊢
 go_wp2_with (first | (go_at_call 41; (refine (K1.out _).mono ?_); (rintro e2 w2 ⟨rfl, hw2⟩; obtain rfl := hw2.symm)) | (refine wpList_store_mid (by rfl) 38 (.tmp 4) (.tmp 11) (by rfl) (w.heap.size + 1) 0 #[.int .u8 0, .int .u8 0, .int .u8 0, .int .u8 0, .int .u8 0, .int .u8 0, .int .u8 0, .int .u8 0, .int .u8 0, .int .u8 0, .int .u8 0, .int .u8 0, .int .u8 0, .int .u8 0, .int .u8 0, .int .u8 0] (by rfl) (by rfl) HI.out.2.2.t size42 (by kernel_rfl) ?_))
 refine ret_array_tmp (#[.int .u8 0, .int .u8 0, .int .u8 0, .int .u8 0, .int .u8 0, .int .u8 0, .int .u8 0, .int .u8 0, .int .u8 0, .int .u8 0, .int .u8 0, .int .u8 0, .int .u8 0, .int .u8 0, .int .u8 0, .int .u8 0]).toList (.int .i64 1) Tryz.results22 rfl rfl ?_ Tryz.underlying38 rfl size42 ⟨rfl, ?_⟩
 ·exact World.rangeAt_setCells_same _ _ _ _ HI.out.2.2.t
 ·exact belowB_setCells _ (Nat.le_succ _) _ _ _ HI.out.1
end Go.Proofs.YtgmfiljjogdccabGreatDoor
namespace Go.Proofs.YtgmfiljjogdccabGreatDoor
open Go.RowKit Go.RwLone
set_option linter.unusedVariables false
set_option linter.unusedSimpArgs false
set_option maxHeartbeats 3200000 in
set_option maxRecDepth 100000 in
theorem kenc_ok (g nr : Nat) (K : Nat → Nat) (s : W4) (w : World) (h : KeyAt w g nr K) (hs : s.ok) :
  Calls Tryz.prog 21 #[.pointer (some ⟨g, 0, none⟩), s.blk] w fun e w' => e = .returned (.tuple #[(encW nr K s).blk, .int .i64 0]) ∧ KeyAt w' g nr K ∧ Touch w w' g 4 1 := by
 have HK : Hid (KeyAt w g nr K) := h
 have HG : Hid (g < w.heap.size) := h.ciph.here
 clear h
 obtain ⟨⟨n0, n1, n2, n3⟩, HN⟩ : ∃ t, Hid (t = encW nr K s) := ⟨_, rfl⟩
 have HB2 : Hid (Below w.heap.size w ((w.alloc (.cells #[.int .u8 (bt0 s.a : Nat), .int .u8 (bt1 s.a : Nat), .int .u8 (bt2 s.a : Nat), .int .u8 (bt3 s.a : Nat), .int .u8 (bt0 s.b : Nat), .int .u8 (bt1 s.b : Nat), .int .u8 (bt2 s.b : Nat), .int .u8 (bt3 s.b : Nat), .int .u8 (bt0 s.c : Nat), .int .u8 (bt1 s.c : Nat), .int .u8 (bt2 s.c : Nat), .int .u8 (bt3 s.c : Nat), .int .u8 (bt0 s.d : Nat), .int .u8 (bt1 s.d : Nat), .int .u8 (bt2 s.d : Nat), .int .u8 (bt3 s.d : Nat)] 38)).alloc (.cells #[.int .u8 0, .int .u8 0, .int .u8 0, .int .u8 0, .int .u8 0, .int .u8 0, .int .u8 0, .int .u8 0, .int .u8 0, .int .u8 0, .int .u8 0, .int .u8 0, .int .u8 0, .int .u8 0, .int .u8 0, .int .u8 0] 38))) := (two_allocs w _ _ 38 38).1
 have HK2 : Hid (KeyAt ((w.alloc (.cells #[.int .u8 (bt0 s.a : Nat), .int .u8 (bt1 s.a : Nat), .int .u8 (bt2 s.a : Nat), .int .u8 (bt3 s.a : Nat), .int .u8 (bt0 s.b : Nat), .int .u8 (bt1 s.b : Nat), .int .u8 (bt2 s.b : Nat), .int .u8 (bt3 s.b : Nat), .int .u8 (bt0 s.c : Nat), .int .u8 (bt1 s.c : Nat), .int .u8 (bt2 s.c : Nat), .int .u8 (bt3 s.c : Nat), .int .u8 (bt0 s.d : Nat), .int .u8 (bt1 s.d : Nat), .int .u8 (bt2 s.d : Nat), .int .u8 (bt3 s.d : Nat)] 38)).alloc (.cells #[.int .u8 0, .int .u8 0, .int .u8 0, .int .u8 0, .int .u8 0, .int .u8 0, .int .u8 0, .int .u8 0, .int .u8 0, .int .u8 0, .int .u8 0, .int .u8 0, .int .u8 0, .int .u8 0, .int .u8 0, .int .u8 0] 38)) g nr K) := HK.out.below HB2.out HG.out
 have HH : Hid (Calls Tryz.prog 41 #[.pointer (some ⟨g, 0, none⟩)] ((w.alloc (.cells #[.int .u8 (bt0 s.a : Nat), .int .u8 (bt1 s.a : Nat), .int .u8 (bt2 s.a : Nat), .int .u8 (bt3 s.a : Nat), .int .u8 (bt0 s.b : Nat), .int .u8 (bt1 s.b : Nat), .int .u8 (bt2 s.b : Nat), .int .u8 (bt3 s.b : Nat), .int .u8 (bt0 s.c : Nat), .int .u8 (bt1 s.c : Nat), .int .u8 (bt2 s.c : Nat), .int .u8 (bt3 s.c : Nat), .int .u8 (bt0 s.d : Nat), .int .u8 (bt1 s.d : Nat), .int .u8 (bt2 s.d : Nat), .int .u8 (bt3 s.d : Nat)] 38)).alloc (.cells #[.int .u8 0, .int .u8 0, .int .u8 0, .int .u8 0, .int .u8 0, .int .u8 0, .int .u8 0, .int .u8 0, .int .u8 0, .int .u8 0, .int .u8 0, .int .u8 0, .int .u8 0, .int .u8 0, .int .u8 0, .int .u8 0] 38)) fun e w' => e = .returned (.int .i64 0) ∧ w' = (((w.alloc (.cells #[.int .u8 (bt0 s.a : Nat), .int .u8 (bt1 s.a : Nat), .int .u8 (bt2 s.a : Nat), .int .u8 (bt3 s.a : Nat), .int .u8 (bt0 s.b : Nat), .int .u8 (bt1 s.b : Nat), .int .u8 (bt2 s.b : Nat), .int .u8 (bt3 s.b : Nat), .int .u8 (bt0 s.c : Nat), .int .u8 (bt1 s.c : Nat), .int .u8 (bt2 s.c : Nat), .int .u8 (bt3 s.c : Nat), .int .u8 (bt0 s.d : Nat), .int .u8 (bt1 s.d : Nat), .int .u8 (bt2 s.d : Nat), .int .u8 (bt3 s.d : Nat)] 38)).alloc (.cells #[.int .u8 0, .int .u8 0, .int .u8 0, .int .u8 0, .int .u8 0, .int .u8 0, .int .u8 0, .int .u8 0, .int .u8 0, .int .u8 0, .int .u8 0, .int .u8 0, .int .u8 0, .int .u8 0, .int .u8 0, .int .u8 0] 38))).setCell ⟨g, 4, none⟩ (.int .i32 1)) := hold_ok g nr K _ HK2.out
 have HE : Hid (∀ u, Ciph u g 6 nr K → Calls Tryz.prog 44 #[.pointer (some ⟨g, 6, none⟩), .agg #[.int .u8 (bt0 s.a : Nat), .int .u8 (bt1 s.a : Nat), .int .u8 (bt2 s.a : Nat), .int .u8 (bt3 s.a : Nat), .int .u8 (bt0 s.b : Nat), .int .u8 (bt1 s.b : Nat), .int .u8 (bt2 s.b : Nat), .int .u8 (bt3 s.b : Nat), .int .u8 (bt0 s.c : Nat), .int .u8 (bt1 s.c : Nat), .int .u8 (bt2 s.c : Nat), .int .u8 (bt3 s.c : Nat), .int .u8 (bt0 s.d : Nat), .int .u8 (bt1 s.d : Nat), .int .u8 (bt2 s.d : Nat), .int .u8 (bt3 s.d : Nat)]] u fun e u' => e = .returned (.agg #[.int .u8 (bt0 n0 : Nat), .int .u8 (bt1 n0 : Nat), .int .u8 (bt2 n0 : Nat), .int .u8 (bt3 n0 : Nat), .int .u8 (bt0 n1 : Nat), .int .u8 (bt1 n1 : Nat), .int .u8 (bt2 n1 : Nat), .int .u8 (bt3 n1 : Nat), .int .u8 (bt0 n2 : Nat), .int .u8 (bt1 n2 : Nat), .int .u8 (bt2 n2 : Nat), .int .u8 (bt3 n2 : Nat), .int .u8 (bt0 n3 : Nat), .int .u8 (bt1 n3 : Nat), .int .u8 (bt2 n3 : Nat), .int .u8 (bt3 n3 : Nat)]) ∧ Below u.heap.size u u') := fun u hu => by
  have := enc_ok g 6 nr K s u hu hs
  rw [← HN.out] at this
  exact this
 clear hs
 have HSZ : Hid (((w.alloc (.cells #[.int .u8 (bt0 s.a : Nat), .int .u8 (bt1 s.a : Nat), .int .u8 (bt2 s.a : Nat), .int .u8 (bt3 s.a : Nat), .int .u8 (bt0 s.b : Nat), .int .u8 (bt1 s.b : Nat), .int .u8 (bt2 s.b : Nat), .int .u8 (bt3 s.b : Nat), .int .u8 (bt0 s.c : Nat), .int .u8 (bt1 s.c : Nat), .int .u8 (bt2 s.c : Nat), .int .u8 (bt3 s.c : Nat), .int .u8 (bt0 s.d : Nat), .int .u8 (bt1 s.d : Nat), .int .u8 (bt2 s.d : Nat), .int .u8 (bt3 s.d : Nat)] 38)).alloc (.cells #[.int .u8 0, .int .u8 0, .int .u8 0, .int .u8 0, .int .u8 0, .int .u8 0, .int .u8 0, .int .u8 0, .int .u8 0, .int .u8 0, .int .u8 0, .int .u8 0, .int .u8 0, .int .u8 0, .int .u8 0, .int .u8 0] 38)).heap.size = w.heap.size + 2) := by show _ = _; simp
 have HTH : Hid (((w.alloc (.cells #[.int .u8 (bt0 s.a : Nat), .int .u8 (bt1 s.a : Nat), .int .u8 (bt2 s.a : Nat), .int .u8 (bt3 s.a : Nat), .int .u8 (bt0 s.b : Nat), .int .u8 (bt1 s.b : Nat), .int .u8 (bt2 s.b : Nat), .int .u8 (bt3 s.b : Nat), .int .u8 (bt0 s.c : Nat), .int .u8 (bt1 s.c : Nat), .int .u8 (bt2 s.c : Nat), .int .u8 (bt3 s.c : Nat), .int .u8 (bt0 s.d : Nat), .int .u8 (bt1 s.d : Nat), .int .u8 (bt2 s.d : Nat), .int .u8 (bt3 s.d : Nat)] 38)).alloc (.cells #[.int .u8 0, .int .u8 0, .int .u8 0, .int .u8 0, .int .u8 0, .int .u8 0, .int .u8 0, .int .u8 0, .int .u8 0, .int .u8 0, .int .u8 0, .int .u8 0, .int .u8 0, .int .u8 0, .int .u8 0, .int .u8 0] 38)).there (w.heap.size + 1) 0 16) := there_two w _ _ 38 38 rfl
 have HRG : Hid (((w.alloc (.cells #[.int .u8 (bt0 s.a : Nat), .int .u8 (bt1 s.a : Nat), .int .u8 (bt2 s.a : Nat), .int .u8 (bt3 s.a : Nat), .int .u8 (bt0 s.b : Nat), .int .u8 (bt1 s.b : Nat), .int .u8 (bt2 s.b : Nat), .int .u8 (bt3 s.b : Nat), .int .u8 (bt0 s.c : Nat), .int .u8 (bt1 s.c : Nat), .int .u8 (bt2 s.c : Nat), .int .u8 (bt3 s.c : Nat), .int .u8 (bt0 s.d : Nat), .int .u8 (bt1 s.d : Nat), .int .u8 (bt2 s.d : Nat), .int .u8 (bt3 s.d : Nat)] 38)).alloc (.cells #[.int .u8 0, .int .u8 0, .int .u8 0, .int .u8 0, .int .u8 0, .int .u8 0, .int .u8 0, .int .u8 0, .int .u8 0, .int .u8 0, .int .u8 0, .int .u8 0, .int .u8 0, .int .u8 0, .int .u8 0, .int .u8 0] 38)).rangeAt w.heap.size 0 [.int .u8 (bt0 s.a : Nat), .int .u8 (bt1 s.a : Nat), .int .u8 (bt2 s.a : Nat), .int .u8 (bt3 s.a : Nat), .int .u8 (bt0 s.b : Nat), .int .u8 (bt1 s.b : Nat), .int .u8 (bt2 s.b : Nat), .int .u8 (bt3 s.b : Nat), .int .u8 (bt0 s.c : Nat), .int .u8 (bt1 s.c : Nat), .int .u8 (bt2 s.c : Nat), .int .u8 (bt3 s.c : Nat), .int .u8 (bt0 s.d : Nat), .int .u8 (bt1 s.d : Nat), .int .u8 (bt2 s.d : Nat), .int .u8 (bt3 s.d : Nat)]) := fun j v hv => by simpa using (two_allocs w #[.int .u8 (bt0 s.a : Nat), .int .u8 (bt1 s.a : Nat), .int .u8 (bt2 s.a : Nat), .int .u8 (bt3 s.a : Nat), .int .u8 (bt0 s.b : Nat), .int .u8 (bt1 s.b : Nat), .int .u8 (bt2 s.b : Nat), .int .u8 (bt3 s.b : Nat), .int .u8 (bt0 s.c : Nat), .int .u8 (bt1 s.c : Nat), .int .u8 (bt2 s.c : Nat), .int .u8 (bt3 s.c : Nat), .int .u8 (bt0 s.d : Nat), .int .u8 (bt1 s.d : Nat), .int .u8 (bt2 s.d : Nat), .int .u8 (bt3 s.d : Nat)] #[.int .u8 0, .int .u8 0, .int .u8 0, .int .u8 0, .int .u8 0, .int .u8 0, .int .u8 0, .int .u8 0, .int .u8 0, .int .u8 0, .int .u8 0, .int .u8 0, .int .u8 0, .int .u8 0, .int .u8 0, .int .u8 0] 38 38).2 j v (by simpa using hv)
 show Calls Tryz.prog 21 #[.pointer (some ⟨g, 0, none⟩), .agg #[.int .u8 (bt0 s.a : Nat), .int .u8 (bt1 s.a : Nat), .int .u8 (bt2 s.a : Nat), .int .u8 (bt3 s.a : Nat), .int .u8 (bt0 s.b : Nat), .int .u8 (bt1 s.b : Nat), .int .u8 (bt2 s.b : Nat), .int .u8 (bt3 s.b : Nat), .int .u8 (bt0 s.c : Nat), .int .u8 (bt1 s.c : Nat), .int .u8 (bt2 s.c : Nat), .int .u8 (bt3 s.c : Nat), .int .u8 (bt0 s.d : Nat), .int .u8 (bt1 s.d : Nat), .int .u8 (bt2 s.d : Nat), .int .u8 (bt3 s.d : Nat)]] w _
 go_enter_defers Tryz.func21, Tryz.ntmps21
 go_wp2_with (first | (go_at_call 41; refine HH.out.mono ?_))
 rintro e1 w1 ⟨rfl, hw1⟩
 have H1 : Hid (Ciph w1 g 6 nr K ∧ Touch ((w.alloc (.cells #[.int .u8 (bt0 s.a : Nat), .int .u8 (bt1 s.a : Nat), .int .u8 (bt2 s.a : Nat), .int .u8 (bt3 s.a : Nat), .int .u8 (bt0 s.b : Nat), .int .u8 (bt1 s.b : Nat), .int .u8 (bt2 s.b : Nat), .int .u8 (bt3 s.b : Nat), .int .u8 (bt0 s.c : Nat), .int .u8 (bt1 s.c : Nat), .int .u8 (bt2 s.c : Nat), .int .u8 (bt3 s.c : Nat), .int .u8 (bt0 s.d : Nat), .int .u8 (bt1 s.d : Nat), .int .u8 (bt2 s.d : Nat), .int .u8 (bt3 s.d : Nat)] 38)).alloc (.cells #[.int .u8 0, .int .u8 0, .int .u8 0, .int .u8 0, .int .u8 0, .int .u8 0, .int .u8 0, .int .u8 0, .int .u8 0, .int .u8 0, .int .u8 0, .int .u8 0, .int .u8 0, .int .u8 0, .int .u8 0, .int .u8 0] 38)) w1 g 4 1 ∧ w1.cell? ⟨g, 4, none⟩ = some (.int .i32 1)) := by
  rw [hw1]
  refine ⟨held_ciph HK2.out 1, (Touch.refl _ g 4 1).setCell 4 _ (by omega) (by omega), ?_⟩
  have := (HK2.out.room 4 (by decide)).1
  exact World.cell?_setCell_same' _ _ _ (by simpa using this)
 clear hw1 HH
 have gl : Hid (∀ u, Below w1.heap.size w1 u → u.rangeAt w.heap.size 0 [.int .u8 (bt0 s.a : Nat), .int .u8 (bt1 s.a : Nat), .int .u8 (bt2 s.a : Nat), .int .u8 (bt3 s.a : Nat), .int .u8 (bt0 s.b : Nat), .int .u8 (bt1 s.b : Nat), .int .u8 (bt2 s.b : Nat), .int .u8 (bt3 s.b : Nat), .int .u8 (bt0 s.c : Nat), .int .u8 (bt1 s.c : Nat), .int .u8 (bt2 s.c : Nat), .int .u8 (bt3 s.c : Nat), .int .u8 (bt0 s.d : Nat), .int .u8 (bt1 s.d : Nat), .int .u8 (bt2 s.d : Nat), .int .u8 (bt3 s.d : Nat)]) := fun u hu j v hv => by
  have hs := H1.out.2.1.size
  have hz := HSZ.out
  have hgw := HG.out
  rw [hu.cell (p := ⟨w.heap.size, 0 + j, none⟩) (show w.heap.size < _ by omega), H1.out.2.1.far (p := ⟨w.heap.size, 0 + j, none⟩) (show w.heap.size < _ by omega) (show w.heap.size ≠ g by omega)]
  exact HRG.out j v hv
 go_wp2_with fail
 have hS0 : Below w1.heap.size w1 w1.drew := (Below.refl _ _).drew
 refine wp_region_noPanic ?_
 refine wp_region_till (fun u => Below w1.heap.size w1 u) 4 (by kernel_rfl) (by decide) (by kernel_rfl) (by kernel_rfl) (by kernel_rfl) (fun inv => ?_)
 refine tU 0 16 (.pointer (some ⟨g, 0, none⟩)) inv rfl rfl hS0 fun inv => ?_
 simp only [pU]
 refine tU 1 17 (.pointer (some ⟨g, 0, none⟩)) inv rfl rfl hS0 fun inv => ?_
 simp only [pU]
 refine tU 2 18 (.pointer (some ⟨g, 6, none⟩)) inv rfl rfl hS0 fun inv => ?_
 simp only [pU]
 refine tT 3 19 (.agg #[.int .u8 (bt0 s.a : Nat), .int .u8 (bt1 s.a : Nat), .int .u8 (bt2 s.a : Nat), .int .u8 (bt3 s.a : Nat), .int .u8 (bt0 s.b : Nat), .int .u8 (bt1 s.b : Nat), .int .u8 (bt2 s.b : Nat), .int .u8 (bt3 s.b : Nat), .int .u8 (bt0 s.c : Nat), .int .u8 (bt1 s.c : Nat), .int .u8 (bt2 s.c : Nat), .int .u8 (bt3 s.c : Nat), .int .u8 (bt0 s.d : Nat), .int .u8 (bt1 s.d : Nat), .int .u8 (bt2 s.d : Nat), .int .u8 (bt3 s.d : Nat)]) inv rfl rfl (by decide +kernel) (hS0) (yieldsIf_load_mid (by rfl) 38 (.tmp 3) rfl w.heap.size 0 rfl [.int .u8 (bt0 s.a : Nat), .int .u8 (bt1 s.a : Nat), .int .u8 (bt2 s.a : Nat), .int .u8 (bt3 s.a : Nat), .int .u8 (bt0 s.b : Nat), .int .u8 (bt1 s.b : Nat), .int .u8 (bt2 s.b : Nat), .int .u8 (bt3 s.b : Nat), .int .u8 (bt0 s.c : Nat), .int .u8 (bt1 s.c : Nat), .int .u8 (bt2 s.c : Nat), .int .u8 (bt3 s.c : Nat), .int .u8 (bt0 s.d : Nat), .int .u8 (bt1 s.d : Nat), .int .u8 (bt2 s.d : Nat), .int .u8 (bt3 s.d : Nat)] _ (fun u hu => gl.out u hu) Tryz.underlying38 rfl size42) (fun inv => ?_)
 simp only [pU]
 refine till_tail (i := 4) (by kernel_rfl) (by decide) rfl (fun K hK => ?_)
 go_simp
 refine (HE.out _ (H1.out.1.below hS0 H1.out.1.here)).mono ?_
 rintro e1 u2 ⟨rfl, hu2⟩
 go_wp2_with fail
 refine hK.out _ _ ?_
 clear hK K
 try simp only [pU]
 have HT2 : Hid (u2.there (w.heap.size + 1) 0 16 ∧ Touch w u2 g 4 1 ∧ u2.cell? ⟨g, 4, none⟩ = some (.int .i32 1)) := by
  have hs := H1.out.2.1.size
  have hz := HSZ.out
  have hgw := HG.out
  have hg1 := H1.out.1.here
  have hb : Below w1.heap.size w1 u2 := hS0.trans (hu2.mono (Nat.le_refl _))
  refine ⟨there_below (fun j hj => ?_) hb (by omega), ?_, (hb.cell hg1).trans H1.out.2.2⟩
  ·rw [H1.out.2.1.far (p := ⟨w.heap.size + 1, 0 + j, none⟩) (show w.heap.size + 1 < _ by omega) (show w.heap.size + 1 ≠ g by omega), H1.out.2.1.farFrozen (p := ⟨w.heap.size + 1, 0 + j, none⟩) (show w.heap.size + 1 < _ by omega) (show w.heap.size + 1 ≠ g by omega)]
   exact HTH.out j hj
  ·exact ((((Touch.refl w g 4 1).alloc _ hgw).alloc _ hgw).trans H1.out.2.1).below hb hgw
 refine till_tail (i := 5) (by kernel_rfl) (by decide) rfl (fun K hK => ?_)
 rw [if_pos (by rfl)]
 refine wp_store_mid 38 (.tmp 4) (.tmp 20) rfl (w.heap.size + 1) 0 #[.int .u8 (bt0 n0 : Nat), .int .u8 (bt1 n0 : Nat), .int .u8 (bt2 n0 : Nat), .int .u8 (bt3 n0 : Nat), .int .u8 (bt0 n1 : Nat), .int .u8 (bt1 n1 : Nat), .int .u8 (bt2 n1 : Nat), .int .u8 (bt3 n1 : Nat), .int .u8 (bt0 n2 : Nat), .int .u8 (bt1 n2 : Nat), .int .u8 (bt2 n2 : Nat), .int .u8 (bt3 n2 : Nat), .int .u8 (bt0 n3 : Nat), .int .u8 (bt1 n3 : Nat), .int .u8 (bt2 n3 : Nat), .int .u8 (bt3 n3 : Nat)] rfl rfl (HT2.out.1) (size42) (by kernel_rfl) ?_
 refine hK.out _ _ ?_
 clear hK K
 try simp only [pU]
 refine till_tail (i := 6) (by kernel_rfl) (by decide) rfl (fun K hK => ?_)
 go_simp
 refine hK.out _ _ ?_
 clear hK K
 try simp only [pU]
 refine till_done (by kernel_rfl) ?_ _
 refine NoPanic.normal ?_
 have HF : Hid ((u2.setCells (w.heap.size + 1) 0 [.int .u8 (bt0 n0 : Nat), .int .u8 (bt1 n0 : Nat), .int .u8 (bt2 n0 : Nat), .int .u8 (bt3 n0 : Nat), .int .u8 (bt0 n1 : Nat), .int .u8 (bt1 n1 : Nat), .int .u8 (bt2 n1 : Nat), .int .u8 (bt3 n1 : Nat), .int .u8 (bt0 n2 : Nat), .int .u8 (bt1 n2 : Nat), .int .u8 (bt2 n2 : Nat), .int .u8 (bt3 n2 : Nat), .int .u8 (bt0 n3 : Nat), .int .u8 (bt1 n3 : Nat), .int .u8 (bt2 n3 : Nat), .int .u8 (bt3 n3 : Nat)]).rangeAt (w.heap.size + 1) 0 [.int .u8 (bt0 n0 : Nat), .int .u8 (bt1 n0 : Nat), .int .u8 (bt2 n0 : Nat), .int .u8 (bt3 n0 : Nat), .int .u8 (bt0 n1 : Nat), .int .u8 (bt1 n1 : Nat), .int .u8 (bt2 n1 : Nat), .int .u8 (bt3 n1 : Nat), .int .u8 (bt0 n2 : Nat), .int .u8 (bt1 n2 : Nat), .int .u8 (bt2 n2 : Nat), .int .u8 (bt3 n2 : Nat), .int .u8 (bt0 n3 : Nat), .int .u8 (bt1 n3 : Nat), .int .u8 (bt2 n3 : Nat), .int .u8 (bt3 n3 : Nat)] ∧ Touch w (u2.setCells (w.heap.size + 1) 0 [.int .u8 (bt0 n0 : Nat), .int .u8 (bt1 n0 : Nat), .int .u8 (bt2 n0 : Nat), .int .u8 (bt3 n0 : Nat), .int .u8 (bt0 n1 : Nat), .int .u8 (bt1 n1 : Nat), .int .u8 (bt2 n1 : Nat), .int .u8 (bt3 n1 : Nat), .int .u8 (bt0 n2 : Nat), .int .u8 (bt1 n2 : Nat), .int .u8 (bt2 n2 : Nat), .int .u8 (bt3 n2 : Nat), .int .u8 (bt0 n3 : Nat), .int .u8 (bt1 n3 : Nat), .int .u8 (bt2 n3 : Nat), .int .u8 (bt3 n3 : Nat)]) g 4 1 ∧ (u2.setCells (w.heap.size + 1) 0 [.int .u8 (bt0 n0 : Nat), .int .u8 (bt1 n0 : Nat), .int .u8 (bt2 n0 : Nat), .int .u8 (bt3 n0 : Nat), .int .u8 (bt0 n1 : Nat), .int .u8 (bt1 n1 : Nat), .int .u8 (bt2 n1 : Nat), .int .u8 (bt3 n1 : Nat), .int .u8 (bt0 n2 : Nat), .int .u8 (bt1 n2 : Nat), .int .u8 (bt2 n2 : Nat), .int .u8 (bt3 n2 : Nat), .int .u8 (bt0 n3 : Nat), .int .u8 (bt1 n3 : Nat), .int .u8 (bt2 n3 : Nat), .int .u8 (bt3 n3 : Nat)]).cell? ⟨g, 4, none⟩ = some (.int .i32 1)) := by
  have hgw := HG.out
  refine ⟨World.rangeAt_setCells_same _ _ _ _ HT2.out.1, touch_new HT2.out.2.1 (Nat.le_succ _) _ _ hgw, ?_⟩
  rw [World.cell?_setCells_out (w.heap.size + 1) _ 0 u2 ⟨g, 4, none⟩ (fun e _ => absurd e (by simp; omega))]
  exact HT2.out.2.2
 generalize u2.setCells (w.heap.size + 1) 0 [.int .u8 (bt0 n0 : Nat), .int .u8 (bt1 n0 : Nat), .int .u8 (bt2 n0 : Nat), .int .u8 (bt3 n0 : Nat), .int .u8 (bt0 n1 : Nat), .int .u8 (bt1 n1 : Nat), .int .u8 (bt2 n1 : Nat), .int .u8 (bt3 n1 : Nat), .int .u8 (bt0 n2 : Nat), .int .u8 (bt1 n2 : Nat), .int .u8 (bt2 n2 : Nat), .int .u8 (bt3 n2 : Nat), .int .u8 (bt0 n3 : Nat), .int .u8 (bt1 n3 : Nat), .int .u8 (bt2 n3 : Nat), .int .u8 (bt3 n3 : Nat)] = w3 at HF ⊢
 clear hu2 hS0 gl
 go_wp2
 have hroom : w3.there g 0 1091 := HF.out.2.1.there _ _ HK.out.room
 obtain ⟨x0, c0⟩ := cell_of_there hroom 0 (by decide)
 obtain ⟨x2, c2⟩ := cell_of_there hroom 2 (by decide)
 have hz := (hroom 4 (by decide)).2
 have hcnt := HF.out.2.2
 refine leaves_cons (f := 42) (args := #[.pointer (some ⟨g, 0, none⟩)]) (by simp) (by simp [go_sem]) ?_
 refine (runlock_deferred rwRLib g 0 1 x0 x2 .returning _ c0 c2 hcnt hz (by decide +kernel)).mono ?_
 rintro e5 u5 w5 ⟨rfl, rfl, hw5⟩
 rw [show wrap32 (1 + -1) = 0 by decide +kernel] at hw5
 have hw5' : w5 = w3.setCells g 4 [.int .i32 0] := hw5
 have hg : g ≠ w.heap.size + 1 := by have := HG.out; omega
 have ht5 : Touch w w5 g 4 1 := by rw [hw5']; exact HF.out.2.1.setCells 4 _ (by omega) (by simp)
 have hc5 : w5.cell? ⟨g, 4, none⟩ = some (.int .i32 0) := by
  rw [hw5]
  exact World.cell?_setCell_same' _ _ _ (by rw [show (0 + 4) = 4 from rfl, hcnt]; rfl)
 have hr5 : w5.rangeAt (w.heap.size + 1) 0 [.int .u8 (bt0 n0 : Nat), .int .u8 (bt1 n0 : Nat), .int .u8 (bt2 n0 : Nat), .int .u8 (bt3 n0 : Nat), .int .u8 (bt0 n1 : Nat), .int .u8 (bt1 n1 : Nat), .int .u8 (bt2 n1 : Nat), .int .u8 (bt3 n1 : Nat), .int .u8 (bt0 n2 : Nat), .int .u8 (bt1 n2 : Nat), .int .u8 (bt2 n2 : Nat), .int .u8 (bt3 n2 : Nat), .int .u8 (bt0 n3 : Nat), .int .u8 (bt1 n3 : Nat), .int .u8 (bt2 n3 : Nat), .int .u8 (bt3 n3 : Nat)] := by rw [hw5']; exact World.rangeAt_setCells_apart HF.out.1 _ _ _ (Or.inl (Ne.symm hg))
 have hl := run_loadVar_mid (P := Tryz.prog) w5 (w.heap.size + 1) 0 38 [.int .u8 (bt0 n0 : Nat), .int .u8 (bt1 n0 : Nat), .int .u8 (bt2 n0 : Nat), .int .u8 (bt3 n0 : Nat), .int .u8 (bt0 n1 : Nat), .int .u8 (bt1 n1 : Nat), .int .u8 (bt2 n1 : Nat), .int .u8 (bt3 n1 : Nat), .int .u8 (bt0 n2 : Nat), .int .u8 (bt1 n2 : Nat), .int .u8 (bt2 n2 : Nat), .int .u8 (bt3 n2 : Nat), .int .u8 (bt0 n3 : Nat), .int .u8 (bt1 n3 : Nat), .int .u8 (bt2 n3 : Nat), .int .u8 (bt3 n3 : Nat)] _ hr5 Tryz.underlying38 rfl size42
 refine ⟨.tuple #[.agg #[.int .u8 (bt0 n0 : Nat), .int .u8 (bt1 n0 : Nat), .int .u8 (bt2 n0 : Nat), .int .u8 (bt3 n0 : Nat), .int .u8 (bt0 n1 : Nat), .int .u8 (bt1 n1 : Nat), .int .u8 (bt2 n1 : Nat), .int .u8 (bt3 n1 : Nat), .int .u8 (bt0 n2 : Nat), .int .u8 (bt1 n2 : Nat), .int .u8 (bt2 n2 : Nat), .int .u8 (bt3 n2 : Nat), .int .u8 (bt0 n3 : Nat), .int .u8 (bt1 n3 : Nat), .int .u8 (bt2 n3 : Nat), .int .u8 (bt3 n3 : Nat)], .int .i64 0], ?_, ?_, HK.out.touch ht5 hc5, ht5⟩
 ·rw [results_cell_tmp Tryz.results21]
  simp [asAddr, hl]
 ·rw [← HN.out]
  exact rfl
end Go.Proofs.YtgmfiljjogdccabGreatDoor
