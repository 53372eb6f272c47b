import Derived.Test.YtgmfiljjogdccaaDoorPart05
import Derived.Laws.StructEq
import Derived.Laws.Tables
import Derived.Laws.Cover2
import Derived.Test.YtgmfiljjogdccaaDoorRows
import Derived.Test.YtgmfiljjogdccaaDoorPart06
import Derived.ProofKit
import Derived.OpenShut
import Derived.ShutString
import Derived.ChangeOld
import Derived.Below
import Derived.SizedLaws
import Derived.Test.YtgmfiljjogdccaaDoorPart17
import Derived.Deep.Slices
namespace Go.Proofs.YtgmfiljjogdccaaDoor
open Go.RowKit
set_option maxRecDepth 100000 in
set_option maxHeartbeats 3200000 in
theorem eq_same (x0 x1 x2 x3 x4 x5 x6 x7 x8 x9 x10 x11 x12 x13 x14 x15 : Int) (w : World) : (Op.equalIn 10000 42 (.agg #[.int .u8 x0, .int .u8 x1, .int .u8 x2, .int .u8 x3, .int .u8 x4, .int .u8 x5, .int .u8 x6, .int .u8 x7, .int .u8 x8, .int .u8 x9, .int .u8 x10, .int .u8 x11, .int .u8 x12, .int .u8 x13, .int .u8 x14, .int .u8 x15]) (.agg #[.int .u8 x0, .int .u8 x1, .int .u8 x2, .int .u8 x3, .int .u8 x4, .int .u8 x5, .int .u8 x6, .int .u8 x7, .int .u8 x8, .int .u8 x9, .int .u8 x10, .int .u8 x11, .int .u8 x12, .int .u8 x13, .int .u8 x14, .int .u8 x15])).run Tryd.prog w = .ok true w := by
  have u5 := Tryd.underlying5
  have a5 := Tryd.isAgg5
  have z5 := Tryd.sizeOf5
  have u42 := Tryd.runUnderlying42 w
  have e : ∀ x : Int, (Op.equalIn 9999 5 (.int .u8 x) (.int .u8 x)).run Tryd.prog w = .ok true w := fun x => by
    rw [show (9999 : Nat) = 9998 + 1 from rfl, run_equalIn_int w 9998 5 .u8 .u8 x x u5]
    simp
  rw [show (10000 : Nat) = 9999 + 1 from rfl, Op.equalIn]
  simp only [Sem.run_bind, run_underlying Tryd.underlying42, Result.andThen_ok]
  simp only [Std.Legacy.Range.forIn_eq_forIn_range', Std.Legacy.Range.size, Nat.sub_zero, Nat.add_sub_cancel, Nat.div_one, List.range'_succ, List.range'_zero, List.forIn_cons, List.forIn_nil]
  go_simp
end Go.Proofs.YtgmfiljjogdccaaDoor
namespace Go.Proofs.YtgmfiljjogdccaaDoor
open Go.ChangeShapes Go.WideShapes Go.ChangeAt Go.RowKit

theorem cells5 : Tryd.prog.cellsOf 5 = 1 := by kernel_rfl
theorem bytes5 : Tryd.prog.bytesOf 5 = 1 := by kernel_rfl

/-- What came in as a list of bytes. -/
theorem open_bytes {H : Type} {enc : TypeId × Value → H} {W : World} {a : Option Addr} {len cap : Nat} {d : DataW H} {p : List MemPlace}
    (h : DataW.Trod enc Tryd.prog W 0 (fun _ => true) true 22 (.slice a len cap) d p) :
    ∃ xs : List Int, xs.length = len ∧ AllBytes xs ∧ View W (.slice a len cap) xs ∧ (d = .nil ∧ xs = [] ∨ ∃ sp, d = .slice (lits .u8 xs) sp) := by
  obtain ⟨fuel, hf⟩ := h
  rcases open_ints Tryd.underlying22 Tryd.underlying5 cells5 hf with ⟨hcs, hx⟩ | ⟨x, l, c, zs, hcs, _, hl, hm, hz, hx, hcell, hwz⟩
  · simp [Value.cells] at hcs
    obtain ⟨rfl, rfl, rfl⟩ := hcs
    simp only [Prod.mk.injEq] at hx
    refine ⟨[], rfl, fun i => by simp, ⟨none, 0, rfl, Nat.le_refl _, by simp, fun _ => rfl, .inl rfl⟩, .inl ⟨hx.1, rfl⟩⟩
  · simp [Value.cells] at hcs
    obtain ⟨rfl, rfl, rfl⟩ := hcs
    simp only [Prod.mk.injEq] at hx
    have hzl : zs.length = cap := by simpa using hz
    have hlen : (zs.take len).length = len := by simp; omega
    have hw : ∀ n ∈ zs, 0 ≤ n ∧ n < 256 := by
      intro n hn
      have := hwz n hn
      have h1 : IntKind.u8.min = 0 := rfl
      have h2 : IntKind.u8.max = 255 := rfl
      simp only [Lit.wf, Bool.and_eq_true, decide_eq_true_eq] at this
      omega
    refine ⟨zs.take len, hlen, ?_, ⟨some x, cap, by rw [hlen], by omega, hm, (fun h => by cases h), ?_⟩, .inr ⟨_, hx.1⟩⟩
    · intro i
      rw [List.getD_eq_getElem?_getD]
      cases hg : (zs.take len)[i]? with
      | none => simp
      | some n =>
        have hn : n ∈ zs := List.mem_of_mem_take (List.mem_of_getElem? hg)
        simpa using hw n hn
    · by_cases h0 : len = 0
      · left
        subst h0
        simp
      · right
        obtain ⟨b, off, spot⟩ := x
        have hc0 := hcell 0 (by omega)
        have hspot : spot = none := by simpa [Addr.add] using World.cell?_spot hc0
        subst hspot
        refine ⟨b, off, rfl, fun i hi => ?_⟩
        rw [hlen] at hi
        have := hcell i (by omega)
        rw [Addr.add_lit] at this
        rw [this]
        congr 2
        simp [List.getD_eq_getElem?_getD, hi]

end Go.Proofs.YtgmfiljjogdccaaDoor
namespace Go.Proofs.YtgmfiljjogdccaaDoor
open Go.RowKit
set_option linter.unusedVariables false
/-- Sixteen bytes as a state. -/
def ofF (f : Nat → Nat) : W4 := ⟨wd (f 0) (f 1) (f 2) (f 3), wd (f 4) (f 5) (f 6) (f 7), wd (f 8) (f 9) (f 10) (f 11), wd (f 12) (f 13) (f 14) (f 15)⟩
theorem ofF_ok {f : Nat → Nat} (hf : ∀ i, f i < 256) : (ofF f).ok := ⟨wd_lt (hf _) (hf _) (hf _) (hf _), wd_lt (hf _) (hf _) (hf _) (hf _), wd_lt (hf _) (hf _) (hf _) (hf _), wd_lt (hf _) (hf _) (hf _) (hf _)⟩
theorem ofF_bt {f : Nat → Nat} (hf : ∀ i, f i < 256) (a b c d : Nat) : bt0 (wd (f a) (f b) (f c) (f d)) = f a ∧ bt1 (wd (f a) (f b) (f c) (f d)) = f b ∧ bt2 (wd (f a) (f b) (f c) (f d)) = f c ∧ bt3 (wd (f a) (f b) (f c) (f d)) = f d := by
  have h1 := hf a
  have h2 := hf b
  have h3 := hf c
  have h4 := hf d
  unfold bt0 bt1 bt2 bt3 wd
  omega
theorem ofF_blk {f : Nat → Nat} (hf : ∀ i, f i < 256) : (ofF f).blk = .agg ([.int .u8 (f 0 : Nat), .int .u8 (f 1 : Nat), .int .u8 (f 2 : Nat), .int .u8 (f 3 : Nat), .int .u8 (f 4 : Nat), .int .u8 (f 5 : Nat), .int .u8 (f 6 : Nat), .int .u8 (f 7 : Nat), .int .u8 (f 8 : Nat), .int .u8 (f 9 : Nat), .int .u8 (f 10 : Nat), .int .u8 (f 11 : Nat), .int .u8 (f 12 : Nat), .int .u8 (f 13 : Nat), .int .u8 (f 14 : Nat), .int .u8 (f 15 : Nat)]).toArray := by
  unfold W4.blk ofF
  simp only [(ofF_bt hf _ _ _ _).1, (ofF_bt hf _ _ _ _).2.1, (ofF_bt hf _ _ _ _).2.2.1, (ofF_bt hf _ _ _ _).2.2.2]
  rfl
theorem cell_other2 (w : World) (g i j : Nat) (v : Value) (h : i ≠ j) : (w.setCell ⟨g, i, none⟩ v).cell? ⟨g, j, none⟩ = w.cell? ⟨g, j, none⟩ :=
  World.cell?_setCell_other w ⟨g, i, none⟩ ⟨g, j, none⟩ v (fun e => h (by cases e; rfl))
set_option maxHeartbeats 1600000 in
set_option maxRecDepth 100000 in
theorem blockOf_ok (b o cap : Nat) (f : Nat → Nat) (w : World) (hb : b < w.heap.size) (hc : ∀ i, i < 16 → w.cell? ⟨b, o + i, none⟩ = some (.int .u8 (f i : Nat))) (hf : ∀ i, f i < 256) :
    Calls Tryd.prog 25 #[.slice (some ⟨b, o, none⟩) 16 cap] w fun e w' => e = .returned (ofF f).blk ∧ Below w.heap.size w w' := by
  rw [ofF_blk hf]
  have HB : Hid (b < w.heap.size) := hb
  have HC : Hid (∀ i, i < 16 → w.cell? ⟨b, o + i, none⟩ = some (.int .u8 (f i : Nat))) := hc
  have HT : Hid (((w.alloc (.cells #[.int .u8 0, .int .u8 0, .int .u8 0, .int .u8 0, .int .u8 0, .int .u8 0, .int .u8 0, .int .u8 0, .int .u8 0, .int .u8 0, .int .u8 0, .int .u8 0, .int .u8 0, .int .u8 0, .int .u8 0, .int .u8 0] 42)).alloc (.cells #[.int .u8 0, .int .u8 0, .int .u8 0, .int .u8 0, .int .u8 0, .int .u8 0, .int .u8 0, .int .u8 0, .int .u8 0, .int .u8 0, .int .u8 0, .int .u8 0, .int .u8 0, .int .u8 0, .int .u8 0, .int .u8 0] 42)).there (w.heap.size + 1) 0 16 ∧ ((w.alloc (.cells #[.int .u8 0, .int .u8 0, .int .u8 0, .int .u8 0, .int .u8 0, .int .u8 0, .int .u8 0, .int .u8 0, .int .u8 0, .int .u8 0, .int .u8 0, .int .u8 0, .int .u8 0, .int .u8 0, .int .u8 0, .int .u8 0] 42)).alloc (.cells #[.int .u8 0, .int .u8 0, .int .u8 0, .int .u8 0, .int .u8 0, .int .u8 0, .int .u8 0, .int .u8 0, .int .u8 0, .int .u8 0, .int .u8 0, .int .u8 0, .int .u8 0, .int .u8 0, .int .u8 0, .int .u8 0] 42)).there w.heap.size 0 16 ∧ Below w.heap.size w ((w.alloc (.cells #[.int .u8 0, .int .u8 0, .int .u8 0, .int .u8 0, .int .u8 0, .int .u8 0, .int .u8 0, .int .u8 0, .int .u8 0, .int .u8 0, .int .u8 0, .int .u8 0, .int .u8 0, .int .u8 0, .int .u8 0, .int .u8 0] 42)).alloc (.cells #[.int .u8 0, .int .u8 0, .int .u8 0, .int .u8 0, .int .u8 0, .int .u8 0, .int .u8 0, .int .u8 0, .int .u8 0, .int .u8 0, .int .u8 0, .int .u8 0, .int .u8 0, .int .u8 0, .int .u8 0, .int .u8 0] 42)) ∧ ((w.alloc (.cells #[.int .u8 0, .int .u8 0, .int .u8 0, .int .u8 0, .int .u8 0, .int .u8 0, .int .u8 0, .int .u8 0, .int .u8 0, .int .u8 0, .int .u8 0, .int .u8 0, .int .u8 0, .int .u8 0, .int .u8 0, .int .u8 0] 42)).alloc (.cells #[.int .u8 0, .int .u8 0, .int .u8 0, .int .u8 0, .int .u8 0, .int .u8 0, .int .u8 0, .int .u8 0, .int .u8 0, .int .u8 0, .int .u8 0, .int .u8 0, .int .u8 0, .int .u8 0, .int .u8 0, .int .u8 0] 42)).heap.size = w.heap.size + 2) :=
    ⟨there_two w _ _ 42 42 rfl, World.there_alloc (there_new w _ 42 16 (Nat.le_refl _)) _, (two_allocs w _ _ 42 42).1, by simp⟩
  clear hb hc hf
  go_enter Tryd.func25, Tryd.ntmps25
  go_upto_region 2 with fail
  generalize (w.alloc (.cells #[.int .u8 0, .int .u8 0, .int .u8 0, .int .u8 0, .int .u8 0, .int .u8 0, .int .u8 0, .int .u8 0, .int .u8 0, .int .u8 0, .int .u8 0, .int .u8 0, .int .u8 0, .int .u8 0, .int .u8 0, .int .u8 0] 42)).alloc (.cells #[.int .u8 0, .int .u8 0, .int .u8 0, .int .u8 0, .int .u8 0, .int .u8 0, .int .u8 0, .int .u8 0, .int .u8 0, .int .u8 0, .int .u8 0, .int .u8 0, .int .u8 0, .int .u8 0, .int .u8 0, .int .u8 0] 42) = w2 at HT ⊢
  go_wp2
  go_loopw [4] (fun i wr => ∃ k : Nat, k ≤ 16 ∧ i = .int .i64 k ∧ Hid (Touch w2 wr (w.heap.size + 1) 0 16 ∧ ∀ j, j < k → wr.cell? ⟨w.heap.size + 1, j, none⟩ = some (.int .u8 (f j : Nat)))) (fun i _ => 16 - (intOf i).toNat)
  case atStart => exact ⟨0, by omega, rfl, Touch.refl _ _ _ _, fun j hj => by omega⟩
  case round =>
    obtain ⟨k, hk, rfl, HR⟩ := hrel
    by_cases hlt : k < 16
    · have ht := HR.out.1
      have ck : wr.cell? ⟨b, o + k, none⟩ = some (.int .u8 (f k : Nat)) := by
        have hbw := HB.out
        have hz := HT.out.2.2.2
        rw [ht.far (p := ⟨b, o + k, none⟩) (show b < _ by omega) (show b ≠ _ by omega), HT.out.2.2.1.cell (p := ⟨b, o + k, none⟩) hbw]
        exact HC.out k hlt
      have t := ht.there _ _ HT.out.1 k hlt
      rw [Nat.zero_add] at t
      obtain ⟨t1, t2⟩ := t
      obtain ⟨v, c1⟩ := Option.isSome_iff_exists.1 t1
      clear t1 ht
      have hki : ((k : Nat) : Int) < 16 := by omega
      go_wp2
      refine ⟨⟨k + 1, by omega, rfl, HR.out.1.setCell k _ (by omega) (by omega), fun j hj => ?_⟩, ?_⟩
      · by_cases hjk : j = k
        · subst hjk
          exact World.cell?_setCell_same' _ _ _ (by rw [c1]; rfl)
        · rw [cell_other2 _ _ _ _ _ (Ne.symm hjk)]
          exact HR.out.2 j (by omega)
      · simp only [intOf]; omega
    · obtain rfl : k = 16 := by omega
      have H4 : Hid (wr.rangeAt (w.heap.size + 1) 0 [.int .u8 (f 0 : Nat), .int .u8 (f 1 : Nat), .int .u8 (f 2 : Nat), .int .u8 (f 3 : Nat), .int .u8 (f 4 : Nat), .int .u8 (f 5 : Nat), .int .u8 (f 6 : Nat), .int .u8 (f 7 : Nat), .int .u8 (f 8 : Nat), .int .u8 (f 9 : Nat), .int .u8 (f 10 : Nat), .int .u8 (f 11 : Nat), .int .u8 (f 12 : Nat), .int .u8 (f 13 : Nat), .int .u8 (f 14 : Nat), .int .u8 (f 15 : Nat)] ∧ wr.there w.heap.size 0 16 ∧ Below w.heap.size w wr) := by
        obtain ⟨t1, t2, t3, t4⟩ := HT.out
        obtain ⟨p1, p2⟩ := HR.out
        refine ⟨fun j v hv => ?_, fun j hj => ?_, t3.trans (p1.toBelow (Nat.le_succ _) (by omega))⟩
        · have hj : j < 16 := (List.getElem?_eq_some_iff.1 hv).1
          have h16 : j = 0 ∨ j = 1 ∨ j = 2 ∨ j = 3 ∨ j = 4 ∨ j = 5 ∨ j = 6 ∨ j = 7 ∨ j = 8 ∨ j = 9 ∨ j = 10 ∨ j = 11 ∨ j = 12 ∨ j = 13 ∨ j = 14 ∨ j = 15 := by omega
          have q := p2 j hj
          rw [Nat.zero_add, q]
          rcases h16 with rfl | rfl | rfl | rfl | rfl | rfl | rfl | rfl | rfl | rfl | rfl | rfl | rfl | rfl | rfl | rfl <;> exact hv
        · rw [p1.far (p := ⟨w.heap.size, 0 + j, none⟩) (show w.heap.size < _ by omega) (show w.heap.size ≠ _ by omega), p1.farFrozen (p := ⟨w.heap.size, 0 + j, none⟩) (show w.heap.size < _ by omega) (show w.heap.size ≠ _ by omega)]
          exact t2 j hj
      clear HR hlt hk
      go_wp2_with (first
        | (refine wpList_load_mid (by rfl) 42 (.tmp 3) (by rfl) (w.heap.size + 1) 0 (by rfl) [.int .u8 (f 0 : Nat), .int .u8 (f 1 : Nat), .int .u8 (f 2 : Nat), .int .u8 (f 3 : Nat), .int .u8 (f 4 : Nat), .int .u8 (f 5 : Nat), .int .u8 (f 6 : Nat), .int .u8 (f 7 : Nat), .int .u8 (f 8 : Nat), .int .u8 (f 9 : Nat), .int .u8 (f 10 : Nat), .int .u8 (f 11 : Nat), .int .u8 (f 12 : Nat), .int .u8 (f 13 : Nat), .int .u8 (f 14 : Nat), .int .u8 (f 15 : Nat)] _ H4.out.1 Tryd.underlying42 rfl size42 ?_)
        | (refine wpList_store_mid (by rfl) 42 (.tmp 2) (.tmp 21) (by rfl) w.heap.size 0 ([.int .u8 (f 0 : Nat), .int .u8 (f 1 : Nat), .int .u8 (f 2 : Nat), .int .u8 (f 3 : Nat), .int .u8 (f 4 : Nat), .int .u8 (f 5 : Nat), .int .u8 (f 6 : Nat), .int .u8 (f 7 : Nat), .int .u8 (f 8 : Nat), .int .u8 (f 9 : Nat), .int .u8 (f 10 : Nat), .int .u8 (f 11 : Nat), .int .u8 (f 12 : Nat), .int .u8 (f 13 : Nat), .int .u8 (f 14 : Nat), .int .u8 (f 15 : Nat)]).toArray (by rfl) (by rfl) H4.out.2.1 size42 (by kernel_rfl) ?_)
        | fail)
      exact ret_array [.int .u8 (f 0 : Nat), .int .u8 (f 1 : Nat), .int .u8 (f 2 : Nat), .int .u8 (f 3 : Nat), .int .u8 (f 4 : Nat), .int .u8 (f 5 : Nat), .int .u8 (f 6 : Nat), .int .u8 (f 7 : Nat), .int .u8 (f 8 : Nat), .int .u8 (f 9 : Nat), .int .u8 (f 10 : Nat), .int .u8 (f 11 : Nat), .int .u8 (f 12 : Nat), .int .u8 (f 13 : Nat), .int .u8 (f 14 : Nat), .int .u8 (f 15 : Nat)] Tryd.results25 rfl (World.rangeAt_setCells_same _ _ _ _ H4.out.2.1) Tryd.underlying42 rfl size42 ⟨rfl, belowB_setCells _ (Nat.le_refl _) _ _ _ H4.out.2.2⟩
end Go.Proofs.YtgmfiljjogdccaaDoor
namespace Go.Proofs.YtgmfiljjogdccaaDoor
open Go.ChangeShapes Go.WideShapes Go.ChangeAt Go.RowKit
set_option linter.unusedVariables false
theorem cells42 : Tryd.prog.cellsOf 42 = 16 := by kernel_rfl
theorem array16 {cs : Array Value} (h : cs.size = 16) (f : Nat → Nat) (hf : ∀ i, i < 16 → cs[i]? = some (.int .u8 (f i : Nat))) : cs = #[.int .u8 (f 0 : Nat), .int .u8 (f 1 : Nat), .int .u8 (f 2 : Nat), .int .u8 (f 3 : Nat), .int .u8 (f 4 : Nat), .int .u8 (f 5 : Nat), .int .u8 (f 6 : Nat), .int .u8 (f 7 : Nat), .int .u8 (f 8 : Nat), .int .u8 (f 9 : Nat), .int .u8 (f 10 : Nat), .int .u8 (f 11 : Nat), .int .u8 (f 12 : Nat), .int .u8 (f 13 : Nat), .int .u8 (f 14 : Nat), .int .u8 (f 15 : Nat)] := by
  apply Array.ext_getElem?
  intro i
  by_cases hi : i < 16
  · rw [hf i hi]
    have h16 : i = 0 ∨ i = 1 ∨ i = 2 ∨ i = 3 ∨ i = 4 ∨ i = 5 ∨ i = 6 ∨ i = 7 ∨ i = 8 ∨ i = 9 ∨ i = 10 ∨ i = 11 ∨ i = 12 ∨ i = 13 ∨ i = 14 ∨ i = 15 := by omega
    rcases h16 with rfl | rfl | rfl | rfl | rfl | rfl | rfl | rfl | rfl | rfl | rfl | rfl | rfl | rfl | rfl | rfl <;> rfl
  · rw [Array.getElem?_eq_none (by omega), Array.getElem?_eq_none (by simp; omega)]
set_option maxRecDepth 100000 in
/-- A block that came in. -/
theorem open_block {H : Type} {enc : TypeId × Value → H} {W : World} {r : Reach} {b0 : Nat} {v : Value} {d : DataW H} {p : List MemPlace} (hv : Value.okWide Tryd.prog W r b0 42 v) (h : DataW.Trod enc Tryd.prog W 0 (fun _ => true) true 42 v d p) :
    ∃ f : Nat → Nat, (∀ i, f i < 256) ∧ v = (ofF f).blk := by
  simp only [Value.okWide, Tryd.underlying42] at hv
  obtain ⟨cs, rfl, hsz, _⟩ := hv
  rw [cells42] at hsz
  obtain ⟨fuel, hf⟩ := h
  obtain ⟨xs, m, _, _, _, hlen, hi⟩ := DataW.trod_array Tryd.underlying42 hf
  have hc : ∀ i, i < 16 → ∃ z : Nat, z < 256 ∧ cs[i]? = some (.int .u8 (z : Nat)) := fun i h16 => by
    have hx : xs[i]? = some xs[i] := List.getElem?_eq_getElem (by omega)
    have h1 := hi i h16
    rw [hx, cells5, Nat.mul_one] at h1
    obtain ⟨n, hn, _, hw⟩ := DataW.trod_int Tryd.underlying5 h1
    have h2 : IntKind.u8.min = 0 := rfl
    have h3 : IntKind.u8.max = 255 := rfl
    simp only [Lit.wf, Bool.and_eq_true, decide_eq_true_eq] at hw
    refine ⟨n.toNat, by omega, ?_⟩
    have h4 : (Value.agg cs).cells.toList = cs.toList := by simp [Value.cells]
    have h5 : ((Value.agg cs).cells.toList.drop i).take 1 = [.int .u8 n] := hn
    rw [h4] at h5
    have h6 : cs.toList[i]? = some (.int .u8 n) := by
      have := congrArg (fun l => l[0]?) h5
      simpa using this
    rw [← Array.getElem?_toList, h6]
    congr 2
    omega
  obtain ⟨F, hF1, hF2⟩ : ∃ F : Nat → Nat, (∀ i, F i < 256) ∧ ∀ i, i < 16 → cs[i]? = some (.int .u8 (F i : Nat)) := by
    refine ⟨fun i => if h : i < 16 then (hc i h).choose else 0, fun i => ?_, fun i h => ?_⟩
    · by_cases h : i < 16
      · simp only [dif_pos h]; exact (hc i h).choose_spec.1
      · simp only [dif_neg h]; decide
    · simp only [dif_pos h]
      exact (hc i h).choose_spec.2
  exact ⟨F, hF1, by rw [ofF_blk hF1, array16 hsz F hF2]⟩
end Go.Proofs.YtgmfiljjogdccaaDoor
namespace Go.Proofs.YtgmfiljjogdccaaDoor
open Go.ChangeShapes Go.WideShapes Go.ChangeAt Go.RowKit
set_option linter.unusedVariables false
/-- Blocks where they lie. -/
def Blks (w : World) (ao : Option Addr) (n : Nat) (f : Nat → W4) : Prop := n = 0 ∨ ∃ b off, ao = some ⟨b, off, none⟩ ∧ b < w.heap.size ∧ ∀ i, i < n → (f i).ok ∧ w.rangeAt b (off + i * 16) (arL (sb (f i)))
theorem Blks.below {w w' : World} {ao : Option Addr} {n : Nat} {f : Nat → W4} (h : Blks w ao n f) (hb : Below w.heap.size w w') : Blks w' ao n f := by
  rcases h with h | ⟨b, off, rfl, hlt, h⟩
  · exact .inl h
  · exact .inr ⟨b, off, rfl, Nat.lt_of_lt_of_le hlt hb.size, fun i hi => ⟨(h i hi).1, fun j v hv => (hb.cell hlt).trans ((h i hi).2 j v hv)⟩⟩
theorem arL_length (f : Nat → Nat) : (arL f).length = 16 := rfl
/-- Sixteen cells that read as a block. -/
theorem open_cells {H : Type} {enc : TypeId × Value → H} {W : World} {spare : Nat → Bool} {fuel : Nat} {cs : List Value} {x : DataW H × List MemPlace} (hl : cs.length = 16) (h : DataW.trod enc Tryd.prog W 0 spare true fuel 42 cs = some x) : ∃ s : W4, s.ok ∧ cs = arL (sb s) := by
  obtain ⟨xs, m, _, _, _, hlen, hi⟩ := DataW.trod_array Tryd.underlying42 h
  have hc : ∀ i, i < 16 → ∃ z : Nat, z < 256 ∧ cs[i]? = some (.int .u8 (z : Nat)) := fun i h16 => by
    have hx : xs[i]? = some xs[i] := List.getElem?_eq_getElem (by omega)
    have h1 := hi i h16
    rw [hx, cells5, Nat.mul_one] at h1
    obtain ⟨n, hn, _, hw⟩ := DataW.trod_int Tryd.underlying5 h1
    have h2 : IntKind.u8.min = 0 := rfl
    have h3 : IntKind.u8.max = 255 := rfl
    simp only [Lit.wf, Bool.and_eq_true, decide_eq_true_eq] at hw
    refine ⟨n.toNat, by omega, ?_⟩
    have h6 : cs[i]? = some (.int .u8 n) := by
      have := congrArg (fun l => l[0]?) hn
      simpa using this
    rw [h6]
    congr 2
    omega
  obtain ⟨F, hF1, hF2⟩ : ∃ F : Nat → Nat, (∀ i, F i < 256) ∧ ∀ i, i < 16 → cs[i]? = some (.int .u8 (F i : Nat)) := by
    refine ⟨fun i => if h : i < 16 then (hc i h).choose else 0, fun i => ?_, fun i h => ?_⟩
    · by_cases h : i < 16
      · simp only [dif_pos h]; exact (hc i h).choose_spec.1
      · simp only [dif_neg h]; decide
    · simp only [dif_pos h]
      exact (hc i h).choose_spec.2
  have e : cs = arL F := by
    apply List.ext_getElem?
    intro i
    by_cases hi : i < 16
    · rw [hF2 i hi, arL_at F i hi]
    · rw [List.getElem?_eq_none (by omega), List.getElem?_eq_none (by rw [arL_length]; omega)]
  refine ⟨ofF F, ofF_ok hF1, ?_⟩
  have h1 : Value.agg (arA (sb (ofF F))) = Value.agg (arA F) := by rw [← blk_sb]; exact ofF_blk hF1
  rw [e, ← arA_list, ← arA_list]
  injection h1 with h1
  rw [h1]
set_option maxRecDepth 100000 in
/-- Blocks that came in. -/
theorem open_blocks {H : Type} {enc : TypeId × Value → H} {W : World} {r : Reach} {b0 : Nat} {v : Value} {d : DataW H} {p : List MemPlace} (hv : Value.okWide Tryd.prog W r b0 40 v) (h : DataW.Trod enc Tryd.prog W 0 (fun _ => true) true 40 v d p) :
    ∃ ao n cap f, v = .slice ao n cap ∧ n ≤ cap ∧ cap ≤ 9223372036854775807 ∧ Blks W ao n f := by
  obtain ⟨ao0, n0, c0, rfl⟩ := okWide_slice Tryd.underlying40 hv
  obtain ⟨fuel, hf⟩ := h
  rcases Deep.open_slice Tryd.underlying40 hf with ⟨hcs, _⟩ | ⟨a, len, cap, m, n, D, Pl, hcs, hb, hl, hm, hmm, _, hx⟩
  · simp [Value.cells] at hcs
    obtain ⟨rfl, rfl, rfl⟩ := hcs
    exact ⟨none, 0, 0, fun _ => ⟨0, 0, 0, 0⟩, rfl, Nat.le_refl _, by decide, Or.inl rfl⟩
  · simp [Value.cells] at hcs
    obtain ⟨rfl, rfl, rfl⟩ := hcs
    rw [if_pos rfl] at hmm
    subst hmm
    rw [cells42] at hx
    by_cases h0 : n0 = 0
    · exact ⟨some a, n0, m, fun _ => ⟨0, 0, 0, 0⟩, rfl, hl, by simpa [maxLen] using hm, Or.inl h0⟩
    · have hc : ∀ i, i < m → ∃ y : W4, y.ok ∧ W.cells? 0 (a.add (i * 16)) 16 = some (arL (sb y)) := fun i hi => by
        obtain ⟨cs', h1, h2⟩ := hx i hi
        obtain ⟨_, hlen, _⟩ := World.cells?_some h1
        obtain ⟨y, hok, hy⟩ := open_cells hlen h2
        exact ⟨y, hok, by rw [h1, hy]⟩
      have : Nonempty W4 := ⟨⟨0, 0, 0, 0⟩⟩
      obtain ⟨f, hf'⟩ : ∃ f : Nat → W4, ∀ i, i < m → (f i).ok ∧ W.cells? 0 (a.add (i * 16)) 16 = some (arL (sb (f i))) := by
        refine ⟨fun i => if h : i < m then (hc i h).choose else ⟨0, 0, 0, 0⟩, fun i hi => ?_⟩
        simp only [dif_pos hi]
        exact (hc i hi).choose_spec
      obtain ⟨b, off, spot⟩ := a
      have hlt := World.cells?_block (hf' 0 (by omega)).2 (by decide)
      have hs : spot = none := by
        obtain ⟨_, _, hcell⟩ := World.cells?_some (hf' 0 (by omega)).2
        have := hcell 0 (by decide)
        rw [arL_at _ 0 (by decide)] at this
        simpa [Addr.add] using World.cell?_spot this
      subst hs
      refine ⟨_, n0, m, f, rfl, hl, by simpa [maxLen] using hm, Or.inr ⟨b, off, rfl, ?_, fun i hi => ⟨(hf' i (by omega)).1, fun j u hu => ?_⟩⟩⟩
      · simpa [Addr.add_lit] using hlt
      · have hj : j < 16 := by
          rcases Nat.lt_or_ge j 16 with hj | hj
          · exact hj
          · rw [List.getElem?_eq_none (by rw [arL_length]; exact hj)] at hu; cases hu
        obtain ⟨_, _, hcell⟩ := World.cells?_some (hf' i (by omega)).2
        have := hcell j hj
        rw [Addr.add_lit, Addr.add_lit, hu] at this
        exact this
end Go.Proofs.YtgmfiljjogdccaaDoor
