import Derived.Test.YtcnikfikpnnblaaGreatDoorNwc
import Derived.Test.YtcnikfikpnnblaaGreatDoorPart24
import Derived.Test.YtcnikfikpnnblaaGreatDoorPart25
import Derived.Test.YtcnikfikpnnblaaGreatDoorEnc
import Derived.Test.YtcnikfikpnnblaaGreatDoorPart00
import Derived.Conc.RwLone
import Derived.Defers
namespace Go.Proofs.YtcnikfikpnnblaaGreatDoor
open Go.RowKit
set_option linter.unusedVariables false
set_option linter.unusedSimpArgs false
theorem enter_ok {P : Program} {f : FuncId} {fn : Func} {c : Code} (hf : P.funcs[f]? = some fn) (hn : (fn.name == "runtime.NumGoroutine") = false) (hb : fn.body = some c) (args : Array Value) (w : World) : (callFunc f args).run P w = .ok (.enter f args) w := by
 have h1 : fn.name ≠ "runtime.NumGoroutine" := by simpa using hn
 simp [callFunc, hf, h1, hb]
theorem first_or (S : ByteArray) : ∀ n, (∃ j, j < n ∧ spN j = S ∧ ∀ i, i < j → spN i ≠ S) ∨ ∀ i, i < n → spN i ≠ S
 | 0 => .inr fun i hi => by omega
 | n + 1 => by
  rcases first_or S n with ⟨j, h1, h2, h3⟩ | h
  ·exact .inl ⟨j, by omega, h2, h3⟩
  ·by_cases e : spN n = S
   ·exact .inl ⟨n, by omega, e, h⟩
   ·refine .inr fun i hi => ?_
    by_cases q : i < n
    ·exact h i q
    ·obtain rfl : i = n := by omega
     exact e
theorem first_eq {S : ByteArray} {j k : Nat} (h1 : spN j = S) (h2 : ∀ i, i < j → spN i ≠ S) (k1 : spN k = S) (k2 : ∀ i, i < k → spN i ≠ S) : j = k := by
 rcases Nat.lt_trichotomy j k with q | q | q
 ·exact absurd h1 (k2 j q)
 ·exact q
 ·exact absurd k1 (h2 k q)
theorem find_at (S : ByteArray) (j : Nat) (w : World) (hT : Pow w) (hj : j < 52) (h1 : spN j = S) (h2 : ∀ i, i < j → spN i ≠ S) : Calls Tryz.prog 43 #[.string S] w fun e w' => Hid (e = .returned (.tuple #[.agg (sxF j).toArray, .bool true]) ∧ Below w.heap.size w w') := by
 refine (find_ok S w hT).mono ?_
 rintro e w' ⟨⟨k, hk, e1, e2, rfl⟩ | ⟨hn, _⟩, hb⟩
 ·rw [first_eq h1 h2 e1 e2]; exact ⟨rfl, hb⟩
 ·exact absurd h1 (hn j hj)
theorem RC.belowB {B : Nat} {w w' : World} (h : RC w) (hb : Below B w w') (h0 : 3 < B) : RC w' := fun i hi => (hb.cell (p := ⟨3, i, none⟩) h0).trans (h i hi)
end Go.Proofs.YtcnikfikpnnblaaGreatDoor
namespace Go.Proofs.YtcnikfikpnnblaaGreatDoor
open Go.RowKit
set_option linter.unusedVariables false
set_option linter.unusedSimpArgs false
theorem made_yes (c sh : Nat) (w : World) (h : w.cell? ⟨c, 0, none⟩ = some (.pointer (some ⟨sh, 0, none⟩))) : Calls Tryz.prog 51 #[.pointer (some ⟨c, 0, none⟩)] w fun e w' => e = .returned (.bool true) ∧ w' = w := by
 go_enter Tryz.func51, Tryz.ntmps51
 go_wp2
 go_ret
 exact ⟨rfl, rfl⟩
theorem num_ok (x : Int) (w : World) : Calls Tryz.prog 17 #[.int .i64 x] w fun e w' => e = .returned (.int .i64 x) ∧ w' = w := by
 go_enter Tryz.func17, Tryz.ntmps17
 go_wp2
 go_ret
 exact ⟨rfl, rfl⟩
end Go.Proofs.YtcnikfikpnnblaaGreatDoor
namespace Go.Proofs.YtcnikfikpnnblaaGreatDoor
open Go.RowKit Go.RwLone
set_option linter.unusedVariables false
theorem touch_new {w v : World} {g o n : Nat} (h : Touch w v g o n) {b : Nat} (hb : w.heap.size ≤ b) (vs : List Value) (o' : Nat) (hg : g < w.heap.size) : Touch w (v.setCells b o' vs) g o n :=
 ⟨by rw [setCells_os]; exact h.os, by rw [setCells_tape]; exact h.tape, by rw [setCells_output]; exact h.output, by rw [sizeB_setCells]; exact h.size,
  fun k hk hne => by rw [World.heap_setCells_other v b o' vs (by have := h.size; omega) (by omega)]; exact h.block k hk hne,
  fun j hj => by rw [World.cell?_setCells_out b vs o' v ⟨g, j, none⟩ (fun e _ => absurd e (by simp; omega))]; exact h.cell j hj,
  fun o2 n2 ht => World.there_setCells (h.there o2 n2 ht) b o' vs⟩
theorem KeyAt.touch {w w' : World} {g nr : Nat} {K : Nat → Nat} (h : KeyAt w g nr K) (ht : Touch w w' g 4 1) (hc : w'.cell? ⟨g, 4, none⟩ = some (.int .i32 0)) : KeyAt w' g nr K := by
 refine ⟨⟨(ht.cell 6 (by omega)).trans h.ciph.rounds, fun i hi => (ht.cell (6 + 1 + i) (by omega)).trans (h.ciph.words i hi), h.ciph.small, ⟨fun b hb => (ht.cell _ (by omega)).trans (h.ciph.tab.s b hb), fun b hb => (ht.cell _ (by omega)).trans (h.ciph.tab.u b hb), fun b hb => (ht.cell _ (by omega)).trans (h.ciph.tab.m b hb), fun b hb => (ht.cell _ (by omega)).trans (h.ciph.tab.n b hb)⟩, Nat.lt_of_lt_of_le h.ciph.here ht.size, h.ciph.some, h.ciph.most⟩, hc, ht.there _ _ h.room⟩
/-- While a call holds the key. -/
theorem held_ciph {w : World} {g nr : Nat} {K : Nat → Nat} (h : KeyAt w g nr K) (c : Int) : Ciph (w.setCell ⟨g, 4, none⟩ (.int .i32 c)) g 6 nr K := by
 have ht : Touch w (w.setCell ⟨g, 4, none⟩ (.int .i32 c)) g 4 1 := (Touch.refl w g 4 1).setCell 4 _ (by omega) (by omega)
 exact ⟨(ht.cell 6 (by omega)).trans h.ciph.rounds, fun i hi => (ht.cell (6 + 1 + i) (by omega)).trans (h.ciph.words i hi), h.ciph.small, ⟨fun b hb => (ht.cell _ (by omega)).trans (h.ciph.tab.s b hb), fun b hb => (ht.cell _ (by omega)).trans (h.ciph.tab.u b hb), fun b hb => (ht.cell _ (by omega)).trans (h.ciph.tab.m b hb), fun b hb => (ht.cell _ (by omega)).trans (h.ciph.tab.n b hb)⟩, Nat.lt_of_lt_of_le h.ciph.here ht.size, h.ciph.some, h.ciph.most⟩
theorem cell_of_there {w : World} {g o n : Nat} (h : w.there g o n) (j : Nat) (hj : j < n) : ∃ v, w.cell? ⟨g, o + j, none⟩ = some v := Option.isSome_iff_exists.1 (h j hj).1
set_option maxHeartbeats 1600000 in
set_option maxRecDepth 100000 in
theorem hold_ok (g nr : Nat) (K : Nat → Nat) (w : World) (h : KeyAt w g nr K) : Calls Tryz.prog 78 #[.pointer (some ⟨g, 0, none⟩)] w fun e w' => e = .returned (.int .i64 0) ∧ w' = w.setCell ⟨g, 4, none⟩ (.int .i32 1) := by
 obtain ⟨x0, c0⟩ := cell_of_there h.room 0 (by decide)
 obtain ⟨x3, c3⟩ := cell_of_there h.room 3 (by decide)
 have hz := (h.room 4 (by decide)).2
 have hc := h.count
 have KL : Hid (Calls Tryz.prog 109 #[.pointer (some ⟨g, 0, none⟩)] w fun e w' => e = .returned (.tuple #[]) ∧ w' = w.setCell ⟨g, 4, none⟩ (.int .i32 1))  := by
  have h := rlock_open rwRLib g 0 0 x0 x3 w c0 c3 hc hz (by decide +kernel)
  rw [show wrap32 (0 + 1) = 1 by decide +kernel] at h
  exact h
 have cr : (w.setCell ⟨g, 4, none⟩ (.int .i32 1)).cell? ⟨g, 6, none⟩ = some (.int .i64 (nr : Nat)) := (held_ciph h 1).rounds
 have hn : (((nr : Nat) : Int) == 0) = false := by have := h.ciph.some; simp; omega
 clear c0 c3 hz hc h
 go_enter Tryz.func78, Tryz.ntmps78
 go_wp2_with (first | (go_at_call 109; refine KL.out.mono ?_))
 rintro e1 w1 ⟨rfl, hw1⟩
 obtain rfl := hw1.symm
 go_wp2
 go_ret
 exact ⟨rfl, rfl⟩
theorem hold_nil (w : World) : Calls Tryz.prog 78 #[.pointer none] w fun e w' => e = .returned (.int .i64 1) ∧ w' = w := by
 go_enter Tryz.func78, Tryz.ntmps78
 go_wp2
 go_ret
 exact ⟨rfl, rfl⟩
end Go.Proofs.YtcnikfikpnnblaaGreatDoor
namespace Go.Proofs.YtcnikfikpnnblaaGreatDoor
open Go.RowKit Go.RwLone
set_option linter.unusedVariables false
set_option linter.unusedSimpArgs false
set_option maxHeartbeats 3200000 in
set_option maxRecDepth 100000 in
theorem kenc_ok (g nr : Nat) (K : Nat → Nat) (s : W4) (w : World) (h : KeyAt w g nr K) (hs : s.ok) :
  Calls Tryz.prog 55 #[.pointer (some ⟨g, 0, none⟩), s.blk] w fun e w' => e = .returned (.tuple #[(encW nr K s).blk, .int .i64 0]) ∧ KeyAt w' g nr K ∧ Touch w w' g 4 1 := by
 have HK : Hid (KeyAt w g nr K) := h
 have HG : Hid (g < w.heap.size) := h.ciph.here
 clear h
 obtain ⟨⟨n0, n1, n2, n3⟩, HN⟩ : ∃ t, Hid (t = encW nr K s) := ⟨_, rfl⟩
 have HB2 : Hid (Below w.heap.size w ((w.alloc (.cells #[.int .u8 (bt0 s.a : Nat), .int .u8 (bt1 s.a : Nat), .int .u8 (bt2 s.a : Nat), .int .u8 (bt3 s.a : Nat), .int .u8 (bt0 s.b : Nat), .int .u8 (bt1 s.b : Nat), .int .u8 (bt2 s.b : Nat), .int .u8 (bt3 s.b : Nat), .int .u8 (bt0 s.c : Nat), .int .u8 (bt1 s.c : Nat), .int .u8 (bt2 s.c : Nat), .int .u8 (bt3 s.c : Nat), .int .u8 (bt0 s.d : Nat), .int .u8 (bt1 s.d : Nat), .int .u8 (bt2 s.d : Nat), .int .u8 (bt3 s.d : Nat)] 29)).alloc (.cells #[.int .u8 0, .int .u8 0, .int .u8 0, .int .u8 0, .int .u8 0, .int .u8 0, .int .u8 0, .int .u8 0, .int .u8 0, .int .u8 0, .int .u8 0, .int .u8 0, .int .u8 0, .int .u8 0, .int .u8 0, .int .u8 0] 29))) := (two_allocs w _ _ 29 29).1
 have HK2 : Hid (KeyAt ((w.alloc (.cells #[.int .u8 (bt0 s.a : Nat), .int .u8 (bt1 s.a : Nat), .int .u8 (bt2 s.a : Nat), .int .u8 (bt3 s.a : Nat), .int .u8 (bt0 s.b : Nat), .int .u8 (bt1 s.b : Nat), .int .u8 (bt2 s.b : Nat), .int .u8 (bt3 s.b : Nat), .int .u8 (bt0 s.c : Nat), .int .u8 (bt1 s.c : Nat), .int .u8 (bt2 s.c : Nat), .int .u8 (bt3 s.c : Nat), .int .u8 (bt0 s.d : Nat), .int .u8 (bt1 s.d : Nat), .int .u8 (bt2 s.d : Nat), .int .u8 (bt3 s.d : Nat)] 29)).alloc (.cells #[.int .u8 0, .int .u8 0, .int .u8 0, .int .u8 0, .int .u8 0, .int .u8 0, .int .u8 0, .int .u8 0, .int .u8 0, .int .u8 0, .int .u8 0, .int .u8 0, .int .u8 0, .int .u8 0, .int .u8 0, .int .u8 0] 29)) g nr K) := HK.out.below HB2.out HG.out
 have HH : Hid (Calls Tryz.prog 78 #[.pointer (some ⟨g, 0, none⟩)] ((w.alloc (.cells #[.int .u8 (bt0 s.a : Nat), .int .u8 (bt1 s.a : Nat), .int .u8 (bt2 s.a : Nat), .int .u8 (bt3 s.a : Nat), .int .u8 (bt0 s.b : Nat), .int .u8 (bt1 s.b : Nat), .int .u8 (bt2 s.b : Nat), .int .u8 (bt3 s.b : Nat), .int .u8 (bt0 s.c : Nat), .int .u8 (bt1 s.c : Nat), .int .u8 (bt2 s.c : Nat), .int .u8 (bt3 s.c : Nat), .int .u8 (bt0 s.d : Nat), .int .u8 (bt1 s.d : Nat), .int .u8 (bt2 s.d : Nat), .int .u8 (bt3 s.d : Nat)] 29)).alloc (.cells #[.int .u8 0, .int .u8 0, .int .u8 0, .int .u8 0, .int .u8 0, .int .u8 0, .int .u8 0, .int .u8 0, .int .u8 0, .int .u8 0, .int .u8 0, .int .u8 0, .int .u8 0, .int .u8 0, .int .u8 0, .int .u8 0] 29)) fun e w' => e = .returned (.int .i64 0) ∧ w' = (((w.alloc (.cells #[.int .u8 (bt0 s.a : Nat), .int .u8 (bt1 s.a : Nat), .int .u8 (bt2 s.a : Nat), .int .u8 (bt3 s.a : Nat), .int .u8 (bt0 s.b : Nat), .int .u8 (bt1 s.b : Nat), .int .u8 (bt2 s.b : Nat), .int .u8 (bt3 s.b : Nat), .int .u8 (bt0 s.c : Nat), .int .u8 (bt1 s.c : Nat), .int .u8 (bt2 s.c : Nat), .int .u8 (bt3 s.c : Nat), .int .u8 (bt0 s.d : Nat), .int .u8 (bt1 s.d : Nat), .int .u8 (bt2 s.d : Nat), .int .u8 (bt3 s.d : Nat)] 29)).alloc (.cells #[.int .u8 0, .int .u8 0, .int .u8 0, .int .u8 0, .int .u8 0, .int .u8 0, .int .u8 0, .int .u8 0, .int .u8 0, .int .u8 0, .int .u8 0, .int .u8 0, .int .u8 0, .int .u8 0, .int .u8 0, .int .u8 0] 29))).setCell ⟨g, 4, none⟩ (.int .i32 1)) := hold_ok g nr K _ HK2.out
 have HE : Hid (∀ u, Ciph u g 6 nr K → Calls Tryz.prog 80 #[.pointer (some ⟨g, 6, none⟩), .agg #[.int .u8 (bt0 s.a : Nat), .int .u8 (bt1 s.a : Nat), .int .u8 (bt2 s.a : Nat), .int .u8 (bt3 s.a : Nat), .int .u8 (bt0 s.b : Nat), .int .u8 (bt1 s.b : Nat), .int .u8 (bt2 s.b : Nat), .int .u8 (bt3 s.b : Nat), .int .u8 (bt0 s.c : Nat), .int .u8 (bt1 s.c : Nat), .int .u8 (bt2 s.c : Nat), .int .u8 (bt3 s.c : Nat), .int .u8 (bt0 s.d : Nat), .int .u8 (bt1 s.d : Nat), .int .u8 (bt2 s.d : Nat), .int .u8 (bt3 s.d : Nat)]] u fun e u' => e = .returned (.agg #[.int .u8 (bt0 n0 : Nat), .int .u8 (bt1 n0 : Nat), .int .u8 (bt2 n0 : Nat), .int .u8 (bt3 n0 : Nat), .int .u8 (bt0 n1 : Nat), .int .u8 (bt1 n1 : Nat), .int .u8 (bt2 n1 : Nat), .int .u8 (bt3 n1 : Nat), .int .u8 (bt0 n2 : Nat), .int .u8 (bt1 n2 : Nat), .int .u8 (bt2 n2 : Nat), .int .u8 (bt3 n2 : Nat), .int .u8 (bt0 n3 : Nat), .int .u8 (bt1 n3 : Nat), .int .u8 (bt2 n3 : Nat), .int .u8 (bt3 n3 : Nat)]) ∧ Below u.heap.size u u') := fun u hu => by
  have := enc_ok g 6 nr K s u hu hs
  rw [← HN.out] at this
  exact this
 clear hs
 have HSZ : Hid (((w.alloc (.cells #[.int .u8 (bt0 s.a : Nat), .int .u8 (bt1 s.a : Nat), .int .u8 (bt2 s.a : Nat), .int .u8 (bt3 s.a : Nat), .int .u8 (bt0 s.b : Nat), .int .u8 (bt1 s.b : Nat), .int .u8 (bt2 s.b : Nat), .int .u8 (bt3 s.b : Nat), .int .u8 (bt0 s.c : Nat), .int .u8 (bt1 s.c : Nat), .int .u8 (bt2 s.c : Nat), .int .u8 (bt3 s.c : Nat), .int .u8 (bt0 s.d : Nat), .int .u8 (bt1 s.d : Nat), .int .u8 (bt2 s.d : Nat), .int .u8 (bt3 s.d : Nat)] 29)).alloc (.cells #[.int .u8 0, .int .u8 0, .int .u8 0, .int .u8 0, .int .u8 0, .int .u8 0, .int .u8 0, .int .u8 0, .int .u8 0, .int .u8 0, .int .u8 0, .int .u8 0, .int .u8 0, .int .u8 0, .int .u8 0, .int .u8 0] 29)).heap.size = w.heap.size + 2) := by show _ = _; simp
 have HTH : Hid (((w.alloc (.cells #[.int .u8 (bt0 s.a : Nat), .int .u8 (bt1 s.a : Nat), .int .u8 (bt2 s.a : Nat), .int .u8 (bt3 s.a : Nat), .int .u8 (bt0 s.b : Nat), .int .u8 (bt1 s.b : Nat), .int .u8 (bt2 s.b : Nat), .int .u8 (bt3 s.b : Nat), .int .u8 (bt0 s.c : Nat), .int .u8 (bt1 s.c : Nat), .int .u8 (bt2 s.c : Nat), .int .u8 (bt3 s.c : Nat), .int .u8 (bt0 s.d : Nat), .int .u8 (bt1 s.d : Nat), .int .u8 (bt2 s.d : Nat), .int .u8 (bt3 s.d : Nat)] 29)).alloc (.cells #[.int .u8 0, .int .u8 0, .int .u8 0, .int .u8 0, .int .u8 0, .int .u8 0, .int .u8 0, .int .u8 0, .int .u8 0, .int .u8 0, .int .u8 0, .int .u8 0, .int .u8 0, .int .u8 0, .int .u8 0, .int .u8 0] 29)).there (w.heap.size + 1) 0 16) := there_two w _ _ 29 29 rfl
 have HRG : Hid (((w.alloc (.cells #[.int .u8 (bt0 s.a : Nat), .int .u8 (bt1 s.a : Nat), .int .u8 (bt2 s.a : Nat), .int .u8 (bt3 s.a : Nat), .int .u8 (bt0 s.b : Nat), .int .u8 (bt1 s.b : Nat), .int .u8 (bt2 s.b : Nat), .int .u8 (bt3 s.b : Nat), .int .u8 (bt0 s.c : Nat), .int .u8 (bt1 s.c : Nat), .int .u8 (bt2 s.c : Nat), .int .u8 (bt3 s.c : Nat), .int .u8 (bt0 s.d : Nat), .int .u8 (bt1 s.d : Nat), .int .u8 (bt2 s.d : Nat), .int .u8 (bt3 s.d : Nat)] 29)).alloc (.cells #[.int .u8 0, .int .u8 0, .int .u8 0, .int .u8 0, .int .u8 0, .int .u8 0, .int .u8 0, .int .u8 0, .int .u8 0, .int .u8 0, .int .u8 0, .int .u8 0, .int .u8 0, .int .u8 0, .int .u8 0, .int .u8 0] 29)).rangeAt w.heap.size 0 [.int .u8 (bt0 s.a : Nat), .int .u8 (bt1 s.a : Nat), .int .u8 (bt2 s.a : Nat), .int .u8 (bt3 s.a : Nat), .int .u8 (bt0 s.b : Nat), .int .u8 (bt1 s.b : Nat), .int .u8 (bt2 s.b : Nat), .int .u8 (bt3 s.b : Nat), .int .u8 (bt0 s.c : Nat), .int .u8 (bt1 s.c : Nat), .int .u8 (bt2 s.c : Nat), .int .u8 (bt3 s.c : Nat), .int .u8 (bt0 s.d : Nat), .int .u8 (bt1 s.d : Nat), .int .u8 (bt2 s.d : Nat), .int .u8 (bt3 s.d : Nat)]) := fun j v hv => by simpa using (two_allocs w #[.int .u8 (bt0 s.a : Nat), .int .u8 (bt1 s.a : Nat), .int .u8 (bt2 s.a : Nat), .int .u8 (bt3 s.a : Nat), .int .u8 (bt0 s.b : Nat), .int .u8 (bt1 s.b : Nat), .int .u8 (bt2 s.b : Nat), .int .u8 (bt3 s.b : Nat), .int .u8 (bt0 s.c : Nat), .int .u8 (bt1 s.c : Nat), .int .u8 (bt2 s.c : Nat), .int .u8 (bt3 s.c : Nat), .int .u8 (bt0 s.d : Nat), .int .u8 (bt1 s.d : Nat), .int .u8 (bt2 s.d : Nat), .int .u8 (bt3 s.d : Nat)] #[.int .u8 0, .int .u8 0, .int .u8 0, .int .u8 0, .int .u8 0, .int .u8 0, .int .u8 0, .int .u8 0, .int .u8 0, .int .u8 0, .int .u8 0, .int .u8 0, .int .u8 0, .int .u8 0, .int .u8 0, .int .u8 0] 29 29).2 j v (by simpa using hv)
 show Calls Tryz.prog 55 #[.pointer (some ⟨g, 0, none⟩), .agg #[.int .u8 (bt0 s.a : Nat), .int .u8 (bt1 s.a : Nat), .int .u8 (bt2 s.a : Nat), .int .u8 (bt3 s.a : Nat), .int .u8 (bt0 s.b : Nat), .int .u8 (bt1 s.b : Nat), .int .u8 (bt2 s.b : Nat), .int .u8 (bt3 s.b : Nat), .int .u8 (bt0 s.c : Nat), .int .u8 (bt1 s.c : Nat), .int .u8 (bt2 s.c : Nat), .int .u8 (bt3 s.c : Nat), .int .u8 (bt0 s.d : Nat), .int .u8 (bt1 s.d : Nat), .int .u8 (bt2 s.d : Nat), .int .u8 (bt3 s.d : Nat)]] w _
 go_enter_defers Tryz.func55, Tryz.ntmps55
 go_wp2_with (first | (go_at_call 78; refine HH.out.mono ?_))
 rintro e1 w1 ⟨rfl, hw1⟩
 have H1 : Hid (Ciph w1 g 6 nr K ∧ Touch ((w.alloc (.cells #[.int .u8 (bt0 s.a : Nat), .int .u8 (bt1 s.a : Nat), .int .u8 (bt2 s.a : Nat), .int .u8 (bt3 s.a : Nat), .int .u8 (bt0 s.b : Nat), .int .u8 (bt1 s.b : Nat), .int .u8 (bt2 s.b : Nat), .int .u8 (bt3 s.b : Nat), .int .u8 (bt0 s.c : Nat), .int .u8 (bt1 s.c : Nat), .int .u8 (bt2 s.c : Nat), .int .u8 (bt3 s.c : Nat), .int .u8 (bt0 s.d : Nat), .int .u8 (bt1 s.d : Nat), .int .u8 (bt2 s.d : Nat), .int .u8 (bt3 s.d : Nat)] 29)).alloc (.cells #[.int .u8 0, .int .u8 0, .int .u8 0, .int .u8 0, .int .u8 0, .int .u8 0, .int .u8 0, .int .u8 0, .int .u8 0, .int .u8 0, .int .u8 0, .int .u8 0, .int .u8 0, .int .u8 0, .int .u8 0, .int .u8 0] 29)) w1 g 4 1 ∧ w1.cell? ⟨g, 4, none⟩ = some (.int .i32 1)) := by
  rw [hw1]
  refine ⟨held_ciph HK2.out 1, (Touch.refl _ g 4 1).setCell 4 _ (by omega) (by omega), ?_⟩
  have := (HK2.out.room 4 (by decide)).1
  exact World.cell?_setCell_same' _ _ _ (by simpa using this)
 clear hw1 HH
 have gl : Hid (∀ u, Below w1.heap.size w1 u → u.rangeAt w.heap.size 0 [.int .u8 (bt0 s.a : Nat), .int .u8 (bt1 s.a : Nat), .int .u8 (bt2 s.a : Nat), .int .u8 (bt3 s.a : Nat), .int .u8 (bt0 s.b : Nat), .int .u8 (bt1 s.b : Nat), .int .u8 (bt2 s.b : Nat), .int .u8 (bt3 s.b : Nat), .int .u8 (bt0 s.c : Nat), .int .u8 (bt1 s.c : Nat), .int .u8 (bt2 s.c : Nat), .int .u8 (bt3 s.c : Nat), .int .u8 (bt0 s.d : Nat), .int .u8 (bt1 s.d : Nat), .int .u8 (bt2 s.d : Nat), .int .u8 (bt3 s.d : Nat)]) := fun u hu j v hv => by
  have hs := H1.out.2.1.size
  have hz := HSZ.out
  have hgw := HG.out
  rw [hu.cell (p := ⟨w.heap.size, 0 + j, none⟩) (show w.heap.size < _ by omega), H1.out.2.1.far (p := ⟨w.heap.size, 0 + j, none⟩) (show w.heap.size < _ by omega) (show w.heap.size ≠ g by omega)]
  exact HRG.out j v hv
 go_wp2_with fail
 have hS0 : Below w1.heap.size w1 w1.drew := (Below.refl _ _).drew
 refine wp_region_noPanic ?_
 refine wp_region_till (fun u => Below w1.heap.size w1 u) 4 (by kernel_rfl) (by decide) (by kernel_rfl) (by kernel_rfl) (by kernel_rfl) (fun inv => ?_)
 refine tU 0 16 (.pointer (some ⟨g, 0, none⟩)) inv rfl rfl hS0 fun inv => ?_
 simp only [pU]
 refine tU 1 17 (.pointer (some ⟨g, 0, none⟩)) inv rfl rfl hS0 fun inv => ?_
 simp only [pU]
 refine tU 2 18 (.pointer (some ⟨g, 6, none⟩)) inv rfl rfl hS0 fun inv => ?_
 simp only [pU]
 refine tT 3 19 (.agg #[.int .u8 (bt0 s.a : Nat), .int .u8 (bt1 s.a : Nat), .int .u8 (bt2 s.a : Nat), .int .u8 (bt3 s.a : Nat), .int .u8 (bt0 s.b : Nat), .int .u8 (bt1 s.b : Nat), .int .u8 (bt2 s.b : Nat), .int .u8 (bt3 s.b : Nat), .int .u8 (bt0 s.c : Nat), .int .u8 (bt1 s.c : Nat), .int .u8 (bt2 s.c : Nat), .int .u8 (bt3 s.c : Nat), .int .u8 (bt0 s.d : Nat), .int .u8 (bt1 s.d : Nat), .int .u8 (bt2 s.d : Nat), .int .u8 (bt3 s.d : Nat)]) inv rfl rfl (by decide +kernel) (hS0) (yieldsIf_load_mid (by rfl) 29 (.tmp 3) rfl w.heap.size 0 rfl [.int .u8 (bt0 s.a : Nat), .int .u8 (bt1 s.a : Nat), .int .u8 (bt2 s.a : Nat), .int .u8 (bt3 s.a : Nat), .int .u8 (bt0 s.b : Nat), .int .u8 (bt1 s.b : Nat), .int .u8 (bt2 s.b : Nat), .int .u8 (bt3 s.b : Nat), .int .u8 (bt0 s.c : Nat), .int .u8 (bt1 s.c : Nat), .int .u8 (bt2 s.c : Nat), .int .u8 (bt3 s.c : Nat), .int .u8 (bt0 s.d : Nat), .int .u8 (bt1 s.d : Nat), .int .u8 (bt2 s.d : Nat), .int .u8 (bt3 s.d : Nat)] _ (fun u hu => gl.out u hu) Tryz.underlying29 rfl size42) (fun inv => ?_)
 simp only [pU]
 refine till_tail (i := 4) (by kernel_rfl) (by decide) rfl (fun K hK => ?_)
 go_simp
 refine (HE.out _ (H1.out.1.below hS0 H1.out.1.here)).mono ?_
 rintro e1 u2 ⟨rfl, hu2⟩
 go_wp2_with fail
 refine hK.out _ _ ?_
 clear hK K
 try simp only [pU]
 have HT2 : Hid (u2.there (w.heap.size + 1) 0 16 ∧ Touch w u2 g 4 1 ∧ u2.cell? ⟨g, 4, none⟩ = some (.int .i32 1)) := by
  have hs := H1.out.2.1.size
  have hz := HSZ.out
  have hgw := HG.out
  have hg1 := H1.out.1.here
  have hb : Below w1.heap.size w1 u2 := hS0.trans (hu2.mono (Nat.le_refl _))
  refine ⟨there_below (fun j hj => ?_) hb (by omega), ?_, (hb.cell hg1).trans H1.out.2.2⟩
  ·rw [H1.out.2.1.far (p := ⟨w.heap.size + 1, 0 + j, none⟩) (show w.heap.size + 1 < _ by omega) (show w.heap.size + 1 ≠ g by omega), H1.out.2.1.farFrozen (p := ⟨w.heap.size + 1, 0 + j, none⟩) (show w.heap.size + 1 < _ by omega) (show w.heap.size + 1 ≠ g by omega)]
   exact HTH.out j hj
  ·exact ((((Touch.refl w g 4 1).alloc _ hgw).alloc _ hgw).trans H1.out.2.1).below hb hgw
 refine till_tail (i := 5) (by kernel_rfl) (by decide) rfl (fun K hK => ?_)
 rw [if_pos (by rfl)]
 refine wp_store_mid 29 (.tmp 4) (.tmp 20) rfl (w.heap.size + 1) 0 #[.int .u8 (bt0 n0 : Nat), .int .u8 (bt1 n0 : Nat), .int .u8 (bt2 n0 : Nat), .int .u8 (bt3 n0 : Nat), .int .u8 (bt0 n1 : Nat), .int .u8 (bt1 n1 : Nat), .int .u8 (bt2 n1 : Nat), .int .u8 (bt3 n1 : Nat), .int .u8 (bt0 n2 : Nat), .int .u8 (bt1 n2 : Nat), .int .u8 (bt2 n2 : Nat), .int .u8 (bt3 n2 : Nat), .int .u8 (bt0 n3 : Nat), .int .u8 (bt1 n3 : Nat), .int .u8 (bt2 n3 : Nat), .int .u8 (bt3 n3 : Nat)] rfl rfl (HT2.out.1) (size42) (by kernel_rfl) ?_
 refine hK.out _ _ ?_
 clear hK K
 try simp only [pU]
 refine till_tail (i := 6) (by kernel_rfl) (by decide) rfl (fun K hK => ?_)
 go_simp
 refine hK.out _ _ ?_
 clear hK K
 try simp only [pU]
 refine till_done (by kernel_rfl) ?_ _
 refine NoPanic.normal ?_
 have HF : Hid ((u2.setCells (w.heap.size + 1) 0 [.int .u8 (bt0 n0 : Nat), .int .u8 (bt1 n0 : Nat), .int .u8 (bt2 n0 : Nat), .int .u8 (bt3 n0 : Nat), .int .u8 (bt0 n1 : Nat), .int .u8 (bt1 n1 : Nat), .int .u8 (bt2 n1 : Nat), .int .u8 (bt3 n1 : Nat), .int .u8 (bt0 n2 : Nat), .int .u8 (bt1 n2 : Nat), .int .u8 (bt2 n2 : Nat), .int .u8 (bt3 n2 : Nat), .int .u8 (bt0 n3 : Nat), .int .u8 (bt1 n3 : Nat), .int .u8 (bt2 n3 : Nat), .int .u8 (bt3 n3 : Nat)]).rangeAt (w.heap.size + 1) 0 [.int .u8 (bt0 n0 : Nat), .int .u8 (bt1 n0 : Nat), .int .u8 (bt2 n0 : Nat), .int .u8 (bt3 n0 : Nat), .int .u8 (bt0 n1 : Nat), .int .u8 (bt1 n1 : Nat), .int .u8 (bt2 n1 : Nat), .int .u8 (bt3 n1 : Nat), .int .u8 (bt0 n2 : Nat), .int .u8 (bt1 n2 : Nat), .int .u8 (bt2 n2 : Nat), .int .u8 (bt3 n2 : Nat), .int .u8 (bt0 n3 : Nat), .int .u8 (bt1 n3 : Nat), .int .u8 (bt2 n3 : Nat), .int .u8 (bt3 n3 : Nat)] ∧ Touch w (u2.setCells (w.heap.size + 1) 0 [.int .u8 (bt0 n0 : Nat), .int .u8 (bt1 n0 : Nat), .int .u8 (bt2 n0 : Nat), .int .u8 (bt3 n0 : Nat), .int .u8 (bt0 n1 : Nat), .int .u8 (bt1 n1 : Nat), .int .u8 (bt2 n1 : Nat), .int .u8 (bt3 n1 : Nat), .int .u8 (bt0 n2 : Nat), .int .u8 (bt1 n2 : Nat), .int .u8 (bt2 n2 : Nat), .int .u8 (bt3 n2 : Nat), .int .u8 (bt0 n3 : Nat), .int .u8 (bt1 n3 : Nat), .int .u8 (bt2 n3 : Nat), .int .u8 (bt3 n3 : Nat)]) g 4 1 ∧ (u2.setCells (w.heap.size + 1) 0 [.int .u8 (bt0 n0 : Nat), .int .u8 (bt1 n0 : Nat), .int .u8 (bt2 n0 : Nat), .int .u8 (bt3 n0 : Nat), .int .u8 (bt0 n1 : Nat), .int .u8 (bt1 n1 : Nat), .int .u8 (bt2 n1 : Nat), .int .u8 (bt3 n1 : Nat), .int .u8 (bt0 n2 : Nat), .int .u8 (bt1 n2 : Nat), .int .u8 (bt2 n2 : Nat), .int .u8 (bt3 n2 : Nat), .int .u8 (bt0 n3 : Nat), .int .u8 (bt1 n3 : Nat), .int .u8 (bt2 n3 : Nat), .int .u8 (bt3 n3 : Nat)]).cell? ⟨g, 4, none⟩ = some (.int .i32 1)) := by
  have hgw := HG.out
  refine ⟨World.rangeAt_setCells_same _ _ _ _ HT2.out.1, touch_new HT2.out.2.1 (Nat.le_succ _) _ _ hgw, ?_⟩
  rw [World.cell?_setCells_out (w.heap.size + 1) _ 0 u2 ⟨g, 4, none⟩ (fun e _ => absurd e (by simp; omega))]
  exact HT2.out.2.2
 generalize u2.setCells (w.heap.size + 1) 0 [.int .u8 (bt0 n0 : Nat), .int .u8 (bt1 n0 : Nat), .int .u8 (bt2 n0 : Nat), .int .u8 (bt3 n0 : Nat), .int .u8 (bt0 n1 : Nat), .int .u8 (bt1 n1 : Nat), .int .u8 (bt2 n1 : Nat), .int .u8 (bt3 n1 : Nat), .int .u8 (bt0 n2 : Nat), .int .u8 (bt1 n2 : Nat), .int .u8 (bt2 n2 : Nat), .int .u8 (bt3 n2 : Nat), .int .u8 (bt0 n3 : Nat), .int .u8 (bt1 n3 : Nat), .int .u8 (bt2 n3 : Nat), .int .u8 (bt3 n3 : Nat)] = w3 at HF ⊢
 clear hu2 hS0 gl
 go_wp2
 have hroom : w3.there g 0 1091 := HF.out.2.1.there _ _ HK.out.room
 obtain ⟨x0, c0⟩ := cell_of_there hroom 0 (by decide)
 obtain ⟨x2, c2⟩ := cell_of_there hroom 2 (by decide)
 have hz := (hroom 4 (by decide)).2
 have hcnt := HF.out.2.2
 refine leaves_cons (f := 79) (args := #[.pointer (some ⟨g, 0, none⟩)]) (by simp) (by simp [go_sem]) ?_
 refine (runlock_deferred rwRLib g 0 1 x0 x2 .returning _ c0 c2 hcnt hz (by decide +kernel)).mono ?_
 rintro e5 u5 w5 ⟨rfl, rfl, hw5⟩
 rw [show wrap32 (1 + -1) = 0 by decide +kernel] at hw5
 have hw5' : w5 = w3.setCells g 4 [.int .i32 0] := hw5
 have hg : g ≠ w.heap.size + 1 := by have := HG.out; omega
 have ht5 : Touch w w5 g 4 1 := by rw [hw5']; exact HF.out.2.1.setCells 4 _ (by omega) (by simp)
 have hc5 : w5.cell? ⟨g, 4, none⟩ = some (.int .i32 0) := by
  rw [hw5]
  exact World.cell?_setCell_same' _ _ _ (by rw [show (0 + 4) = 4 from rfl, hcnt]; rfl)
 have hr5 : w5.rangeAt (w.heap.size + 1) 0 [.int .u8 (bt0 n0 : Nat), .int .u8 (bt1 n0 : Nat), .int .u8 (bt2 n0 : Nat), .int .u8 (bt3 n0 : Nat), .int .u8 (bt0 n1 : Nat), .int .u8 (bt1 n1 : Nat), .int .u8 (bt2 n1 : Nat), .int .u8 (bt3 n1 : Nat), .int .u8 (bt0 n2 : Nat), .int .u8 (bt1 n2 : Nat), .int .u8 (bt2 n2 : Nat), .int .u8 (bt3 n2 : Nat), .int .u8 (bt0 n3 : Nat), .int .u8 (bt1 n3 : Nat), .int .u8 (bt2 n3 : Nat), .int .u8 (bt3 n3 : Nat)] := by rw [hw5']; exact World.rangeAt_setCells_apart HF.out.1 _ _ _ (Or.inl (Ne.symm hg))
 have hl := run_loadVar_mid (P := Tryz.prog) w5 (w.heap.size + 1) 0 29 [.int .u8 (bt0 n0 : Nat), .int .u8 (bt1 n0 : Nat), .int .u8 (bt2 n0 : Nat), .int .u8 (bt3 n0 : Nat), .int .u8 (bt0 n1 : Nat), .int .u8 (bt1 n1 : Nat), .int .u8 (bt2 n1 : Nat), .int .u8 (bt3 n1 : Nat), .int .u8 (bt0 n2 : Nat), .int .u8 (bt1 n2 : Nat), .int .u8 (bt2 n2 : Nat), .int .u8 (bt3 n2 : Nat), .int .u8 (bt0 n3 : Nat), .int .u8 (bt1 n3 : Nat), .int .u8 (bt2 n3 : Nat), .int .u8 (bt3 n3 : Nat)] _ hr5 Tryz.underlying29 rfl size42
 refine ⟨.tuple #[.agg #[.int .u8 (bt0 n0 : Nat), .int .u8 (bt1 n0 : Nat), .int .u8 (bt2 n0 : Nat), .int .u8 (bt3 n0 : Nat), .int .u8 (bt0 n1 : Nat), .int .u8 (bt1 n1 : Nat), .int .u8 (bt2 n1 : Nat), .int .u8 (bt3 n1 : Nat), .int .u8 (bt0 n2 : Nat), .int .u8 (bt1 n2 : Nat), .int .u8 (bt2 n2 : Nat), .int .u8 (bt3 n2 : Nat), .int .u8 (bt0 n3 : Nat), .int .u8 (bt1 n3 : Nat), .int .u8 (bt2 n3 : Nat), .int .u8 (bt3 n3 : Nat)], .int .i64 0], ?_, ?_, HK.out.touch ht5 hc5, ht5⟩
 ·rw [results_cell_tmp Tryz.results55]
  simp [asAddr, hl]
 ·rw [← HN.out]
  exact rfl
end Go.Proofs.YtcnikfikpnnblaaGreatDoor
