import Derived.Test.YtgmfiljjogdccaaDoorPieW
import Derived.Test.YtgmfiljjogdccaaDoorOpen
namespace Go.Proofs.YtgmfiljjogdccaaDoor
open Go.ChangeShapes Go.WideShapes Go.ChangeAt Go.RowKit Go.RwLone
set_option linter.unusedVariables false
set_option linter.unusedSimpArgs false
theorem cells3 : Tryd.prog.cellsOf 3 = 1 := by kernel_rfl
theorem Tryd.underlying57 : Tryd.prog.underlying 57 = some (.slice 3) := by kernel_rfl
/-- What came in as a list of ints. -/
theorem open_cuts {H : Type} {enc : TypeId × Value → H} {W : World} {a : Option Addr} {l cap : Nat} {d : DataW H} {p : List MemPlace} (h : DataW.Trod enc Tryd.prog W 0 (fun _ => true) true 57 (.slice a l cap) d p) :
    ∃ cz : Nat → Int, l ≤ cap ∧ cap ≤ maxLen ∧ (∀ i, i < l → ∃ b p, a = some ⟨b, p, none⟩ ∧ W.cell? ⟨b, p + i, none⟩ = some (.int .i64 (cz i))) ∧ ∀ i, i < l → -9223372036854775808 ≤ cz i ∧ cz i ≤ 9223372036854775807 := by
  obtain ⟨fuel, hf⟩ := h
  rcases open_ints Tryd.underlying57 Tryd.underlying3 cells3 hf with ⟨hcs, _⟩ | ⟨x, l', cap', zs, hcs, _, hl, hm, hz, _, hcell, hwz⟩
  · simp [Value.cells] at hcs
    obtain ⟨rfl, rfl, rfl⟩ := hcs
    exact ⟨fun _ => 0, Nat.le_refl _, by simp, fun i hi => by omega, fun i hi => by omega⟩
  · simp [Value.cells] at hcs
    obtain ⟨rfl, rfl, rfl⟩ := hcs
    have hzl : zs.length = cap := by simpa using hz
    refine ⟨fun i => zs.getD i 0, hl, hm, fun i hi => ?_, fun i hi => ?_⟩
    · obtain ⟨b, off, spot⟩ := x
      have hc0 := hcell i (by omega)
      have hspot : spot = none := by
        have h0 := hcell 0 (by omega)
        simpa [Addr.add] using World.cell?_spot h0
      subst hspot
      rw [Addr.add_lit] at hc0
      exact ⟨b, off, rfl, hc0⟩
    · have hmem : zs.getD i 0 ∈ zs := by
        rw [List.getD_eq_getElem?_getD, List.getElem?_eq_getElem (show i < zs.length by omega)]
        exact List.getElem_mem _
      have hw := hwz _ hmem
      have h2 : IntKind.i64.min = -9223372036854775808 := rfl
      have h3 : IntKind.i64.max = 9223372036854775807 := rfl
      simp only [Lit.wf, Bool.and_eq_true, decide_eq_true_eq] at hw
      show -9223372036854775808 ≤ zs.getD i 0 ∧ zs.getD i 0 ≤ 9223372036854775807
      omega
set_option maxHeartbeats 3200000 in
set_option maxRecDepth 100000 in
theorem pieces_bad (a : Option Addr) (n cap : Nat) (dv : Value) (s : W4) (w : World) (hrc : RC w) (hn : n ≠ 16 ∧ n ≠ 24 ∧ n ≠ 32) :
    Calls Tryd.prog 6 #[.slice a n cap, s.blk, dv] w fun e w' => e = .returned (.bool true) ∧ Below w.heap.size w w' := by
  have HP : Hid (0 < w.heap.size) := World.block_lt_of_cell? w _ (hrc 0 (by decide))
  have HI0 : Hid (Inn w (w.alloc (.cells #[.int .u8 (bt0 s.a : Nat), .int .u8 (bt1 s.a : Nat), .int .u8 (bt2 s.a : Nat), .int .u8 (bt3 s.a : Nat), .int .u8 (bt0 s.b : Nat), .int .u8 (bt1 s.b : Nat), .int .u8 (bt2 s.b : Nat), .int .u8 (bt3 s.b : Nat), .int .u8 (bt0 s.c : Nat), .int .u8 (bt1 s.c : Nat), .int .u8 (bt2 s.c : Nat), .int .u8 (bt3 s.c : Nat), .int .u8 (bt0 s.d : Nat), .int .u8 (bt1 s.d : Nat), .int .u8 (bt2 s.d : Nat), .int .u8 (bt3 s.d : Nat)] 42))) := (Inn.mk hrc HP.out (Below.refl _ _)).below ((Below.refl _ w).alloc (Nat.le_refl _) _)
  clear hrc
  show Calls Tryd.prog 6 #[.slice a n cap, .agg #[.int .u8 (bt0 s.a : Nat), .int .u8 (bt1 s.a : Nat), .int .u8 (bt2 s.a : Nat), .int .u8 (bt3 s.a : Nat), .int .u8 (bt0 s.b : Nat), .int .u8 (bt1 s.b : Nat), .int .u8 (bt2 s.b : Nat), .int .u8 (bt3 s.b : Nat), .int .u8 (bt0 s.c : Nat), .int .u8 (bt1 s.c : Nat), .int .u8 (bt2 s.c : Nat), .int .u8 (bt3 s.c : Nat), .int .u8 (bt0 s.d : Nat), .int .u8 (bt1 s.d : Nat), .int .u8 (bt2 s.d : Nat), .int .u8 (bt3 s.d : Nat)], dv] w _
  go_enter Tryd.func6, Tryd.ntmps6
  go_wp2_with fail
  generalize w.alloc (.cells #[.int .u8 (bt0 s.a : Nat), .int .u8 (bt1 s.a : Nat), .int .u8 (bt2 s.a : Nat), .int .u8 (bt3 s.a : Nat), .int .u8 (bt0 s.b : Nat), .int .u8 (bt1 s.b : Nat), .int .u8 (bt2 s.b : Nat), .int .u8 (bt3 s.b : Nat), .int .u8 (bt0 s.c : Nat), .int .u8 (bt1 s.c : Nat), .int .u8 (bt2 s.c : Nat), .int .u8 (bt3 s.c : Nat), .int .u8 (bt0 s.d : Nat), .int .u8 (bt1 s.d : Nat), .int .u8 (bt2 s.d : Nat), .int .u8 (bt3 s.d : Nat)] 42) = w0 at HI0 ⊢
  refine (vectors_ok w0 HI0.out.rc HI0.out.pos).mono ?_
  rintro e0 w1 ⟨rfl, hb1⟩
  have H1 : Hid (Inn w w1) := HI0.out.below hb1
  clear hb1 HI0
  have KN : Hid (Calls Tryd.prog 9 #[.slice a n cap] w1 fun e w' => e = .returned (.tuple #[.pointer none, .int .i64 20]) ∧ w' = w1) := new_bad a n cap w1 hn
  go_wp2_with (first
    | (go_at_call 9; refine KN.out.mono ?_; rintro e2 w2 ⟨rfl, hw2⟩; obtain rfl := hw2.symm))
  go_ret
  exact ⟨rfl, H1.out.old⟩
theorem pieces_any (kv : Value) (kz : List Int) (f : Nat → Nat) (ca : Option Addr) (cl cc : Nat) (cz : Nat → Int) (w : World) (hrc : RC w) (hk : View w kv kz) (hkb : AllBytes kz) (hf : ∀ i, f i < 256) (hcl : cl ≤ cc) (hcc : cc ≤ maxLen) (hcu : ∀ i, i < cl → ∃ b p, ca = some ⟨b, p, none⟩ ∧ w.cell? ⟨b, p + i, none⟩ = some (.int .i64 (cz i))) (hcw : ∀ i, i < cl → -9223372036854775808 ≤ cz i ∧ cz i ≤ 9223372036854775807) :
    Calls Tryd.prog 6 #[kv, (ofF f).blk, .slice ca cl cc] w fun e w' => e = .returned (.bool true) ∧ Below w.heap.size w w' := by
  obtain ⟨a, cap, rfl, h1, h2, h3, h4⟩ := hk
  by_cases hn : kz.length = 16 ∨ kz.length = 24 ∨ kz.length = 32
  · obtain ⟨nk, hnk, hl⟩ : ∃ nk, (nk = 4 ∨ nk = 6 ∨ nk = 8) ∧ kz.length = 4 * nk := by
      rcases hn with h | h | h
      · exact ⟨4, by decide, h⟩
      · exact ⟨6, by decide, h⟩
      · exact ⟨8, by decide, h⟩
    rcases h4 with rfl | ⟨b, off, rfl, hc⟩
    · simp at hl; omega
    · have hb : b < w.heap.size := World.block_lt_of_cell? w _ (hc 0 (by omega))
      rw [hl]
      exact pieces_good nk b off cap (nat8 kz) (ofF f) ca cl cc cz w hrc hnk hb (fun i hi => by rw [hc i (by omega), nat8_eq hkb]) (nat8_lt hkb) (ofF_ok hf) hcl hcc hcu hcw
  · exact pieces_bad a kz.length cap _ (ofF f) w hrc ⟨fun h => hn (Or.inl h), fun h => hn (Or.inr (Or.inl h)), fun h => hn (Or.inr (Or.inr h))⟩
end Go.Proofs.YtgmfiljjogdccaaDoor
