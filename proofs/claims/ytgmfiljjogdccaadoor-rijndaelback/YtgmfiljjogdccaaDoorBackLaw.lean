import Derived.Test.YtgmfiljjogdccaaDoorBackW
namespace Go.Proofs.YtgmfiljjogdccaaDoor
open Go.RowKit Go.RwLone
set_option linter.unusedVariables false
set_option linter.unusedSimpArgs false
set_option maxHeartbeats 3200000 in
set_option maxRecDepth 100000 in
theorem back_bad (a : Option Addr) (n cap : Nat) (dv : Value) (s : W4) (w : World) (hrc : RC w) (hn : n ≠ 16 ∧ n ≠ 24 ∧ n ≠ 32) :
    Calls Tryd.prog 7 #[.slice a n cap, s.blk, dv] w fun e w' => e = .returned (.bool true) ∧ Below w.heap.size w w' := by
  have HP : Hid (0 < w.heap.size) := World.block_lt_of_cell? w _ (hrc 0 (by decide))
  have HI0 : Hid (Inn w (w.alloc (.cells #[.int .u8 (bt0 s.a : Nat), .int .u8 (bt1 s.a : Nat), .int .u8 (bt2 s.a : Nat), .int .u8 (bt3 s.a : Nat), .int .u8 (bt0 s.b : Nat), .int .u8 (bt1 s.b : Nat), .int .u8 (bt2 s.b : Nat), .int .u8 (bt3 s.b : Nat), .int .u8 (bt0 s.c : Nat), .int .u8 (bt1 s.c : Nat), .int .u8 (bt2 s.c : Nat), .int .u8 (bt3 s.c : Nat), .int .u8 (bt0 s.d : Nat), .int .u8 (bt1 s.d : Nat), .int .u8 (bt2 s.d : Nat), .int .u8 (bt3 s.d : Nat)] 42))) := (Inn.mk hrc HP.out (Below.refl _ _)).below ((Below.refl _ w).alloc (Nat.le_refl _) _)
  obtain ⟨h16, h24, h32⟩ := hn
  have b16 : ¬ ((n : Nat) : Int) = 16 := by omega
  have b24 : ¬ ((n : Nat) : Int) = 24 := by omega
  have b32 : ¬ ((n : Nat) : Int) = 32 := by omega
  clear hrc
  show Calls Tryd.prog 7 #[.slice a n cap, .agg #[.int .u8 (bt0 s.a : Nat), .int .u8 (bt1 s.a : Nat), .int .u8 (bt2 s.a : Nat), .int .u8 (bt3 s.a : Nat), .int .u8 (bt0 s.b : Nat), .int .u8 (bt1 s.b : Nat), .int .u8 (bt2 s.b : Nat), .int .u8 (bt3 s.b : Nat), .int .u8 (bt0 s.c : Nat), .int .u8 (bt1 s.c : Nat), .int .u8 (bt2 s.c : Nat), .int .u8 (bt3 s.c : Nat), .int .u8 (bt0 s.d : Nat), .int .u8 (bt1 s.d : Nat), .int .u8 (bt2 s.d : Nat), .int .u8 (bt3 s.d : Nat)], dv] w _
  go_enter Tryd.func7, Tryd.ntmps7
  go_wp2_with fail
  generalize w.alloc (.cells #[.int .u8 (bt0 s.a : Nat), .int .u8 (bt1 s.a : Nat), .int .u8 (bt2 s.a : Nat), .int .u8 (bt3 s.a : Nat), .int .u8 (bt0 s.b : Nat), .int .u8 (bt1 s.b : Nat), .int .u8 (bt2 s.b : Nat), .int .u8 (bt3 s.b : Nat), .int .u8 (bt0 s.c : Nat), .int .u8 (bt1 s.c : Nat), .int .u8 (bt2 s.c : Nat), .int .u8 (bt3 s.c : Nat), .int .u8 (bt0 s.d : Nat), .int .u8 (bt1 s.d : Nat), .int .u8 (bt2 s.d : Nat), .int .u8 (bt3 s.d : Nat)] 42) = w0 at HI0 ⊢
  refine (vectors_ok w0 HI0.out.rc HI0.out.pos).mono ?_
  rintro e0 w1 ⟨rfl, hb1⟩
  have H1 : Hid (Inn w w1) := HI0.out.below hb1
  clear hb1 HI0
  have KN : Hid (Calls Tryd.prog 9 #[.slice a n cap] w1 fun e w' => e = .returned (.tuple #[.pointer none, .int .i64 20]) ∧ w' = w1) := new_bad a n cap w1 ⟨h16, h24, h32⟩
  go_wp2_with (first
    | (go_at_call 9; refine KN.out.mono ?_; rintro e2 w2 ⟨rfl, hw2⟩; obtain rfl := hw2.symm)
    | (go_at_call 11; refine (num_ok _ _).mono ?_; rintro e9 w9 ⟨rfl, hw9⟩; obtain rfl := hw9.symm))
  go_ret
  refine ⟨ret_bool ?_, H1.out.old⟩
  simp
  omega
theorem back_any (kv dv : Value) (kz dz : List Int) (f : Nat → Nat) (w : World) (hrc : RC w) (hk : View w kv kz) (hkb : AllBytes kz) (hf : ∀ i, f i < 256) (hd : View w dv dz) (hdb : AllBytes dz) :
    Calls Tryd.prog 7 #[kv, (ofF f).blk, dv] w fun e w' => e = .returned (.bool true) ∧ Below w.heap.size w w' := by
  obtain ⟨a, cap, rfl, h1, h2, h3, h4⟩ := hk
  by_cases hn : kz.length = 16 ∨ kz.length = 24 ∨ kz.length = 32
  · obtain ⟨nk, hnk, hl⟩ : ∃ nk, (nk = 4 ∨ nk = 6 ∨ nk = 8) ∧ kz.length = 4 * nk := by
      rcases hn with h | h | h
      · exact ⟨4, by decide, h⟩
      · exact ⟨6, by decide, h⟩
      · exact ⟨8, by decide, h⟩
    rcases h4 with rfl | ⟨b, off, rfl, hc⟩
    · simp at hl; omega
    · have hb : b < w.heap.size := World.block_lt_of_cell? w _ (hc 0 (by omega))
      rw [hl]
      exact back_good nk b off cap (nat8 kz) dv dz (ofF f) w hrc hnk hb (fun i hi => by rw [hc i (by omega), nat8_eq hkb]) (nat8_lt hkb) (ofF_ok hf) hd hdb
  · exact back_bad a kz.length cap dv (ofF f) w hrc ⟨fun h => hn (Or.inl h), fun h => hn (Or.inr (Or.inl h)), fun h => hn (Or.inr (Or.inr h))⟩
end Go.Proofs.YtgmfiljjogdccaaDoor
