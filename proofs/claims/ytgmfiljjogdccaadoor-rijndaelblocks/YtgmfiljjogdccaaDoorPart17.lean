import Derived.Test.YtgmfiljjogdccaaDoorPart06
import Derived.Lib.LazyBuf
import Derived.Test.YtgmfiljjogdccaaDoorPart05
import Derived.Test.YtgmfiljjogdccaaDoorEnc
import Derived.Deep.CutRange
import Derived.Laws.Externs
import Derived.Test.YtgmfiljjogdccaaDoorPart13
namespace Go.Proofs.YtgmfiljjogdccaaDoor
open Go.RowKit
set_option linter.unusedVariables false
theorem Tryd.underlying34 : Tryd.prog.underlying 34 = some (.slice 50) := by kernel_rfl
theorem Tryd.info50 : (Tryd.prog.info? 50).map (fun i => (i.zero, i.size, i.bytes)) = some (some (.int .u32 0), 1, 4) := by kernel_rfl
set_option maxHeartbeats 800000 in
set_option maxRecDepth 100000 in
theorem clone_ok (x : Addr) (n cap : Nat) (vs : List Value) (w : World) (hl : Hid (vs.length = n)) (hn : n ≤ 64) (hc : Hid (∀ j u, vs[j]? = some u → w.cell? (x.add j) = some u)) (h1 : Hid (∀ u ∈ vs, u.oneCell' = true)) :
    Calls Tryd.prog 41 #[.slice (some x) n cap] w fun e w' => ∃ v, e = .returned v ∧ w'.ownsRow w.heap.size 50 1 v n vs ∧ Below w.heap.size w w' := by
  obtain ⟨i0, hi, hz0, hz1, hz2⟩ := info_parts Tryd.info50
  have hnl : ∀ w, (binOp .eql 34 (.slice (some x) n cap) (.slice none 0 0)).run Tryd.prog w = .ok (.bool false) w := fun w => run_eql_slice_nil w 34 50 (some x) n cap Tryd.underlying34
  go_enter Tryd.func41, Tryd.ntmps41
  go_wp2_with (first
    | (at_builtin; go_must (refine wpList_append_own _ rfl (.tmp 5) (.tmp 6) 34 rfl w.heap.size 50 i0 (.int .u32 0) 1 4 Tryd.underlying34 hi hz0 hz1 hz2 rfl (by decide) _ 0 [] rfl (World.ownsRow_made w #[] 0 (Nat.le_refl _) (by unfold maxLen; omega) rfl) x n cap vs rfl ?_ ?_ h1.out ?_ ?_ ?_ ?_)))
  · rw [hl.out, Nat.mul_one]
  · intro j u hu
    have := hc.out j u hu
    rw [World.cell?_alloc_lt w _ _ (World.block_lt_of_cell? w _ this)]
    exact this
  · unfold maxLen; omega
  · omega
  · simp
  intro v1 w1 hown hgrow hnil
  have HO : Hid (w1.ownsRow w.heap.size 50 1 v1 n vs) := hown
  have HB : Hid (Below w.heap.size w w1) := ((Below.refl _ _).alloc (Nat.le_refl _) _).grown hgrow (by simp) (by intro k hk; cases hk; exact Nat.le_refl _)
  clear hown hgrow hnil
  go_wp2
  go_ret
  exact ⟨_, rfl, HO.out, HB.out⟩
end Go.Proofs.YtgmfiljjogdccaaDoor
namespace Go.Proofs.YtgmfiljjogdccaaDoor
open Go.RowKit
set_option linter.unusedVariables false
/-- The first k bytes as a number. -/
def numK (f : Nat → Nat) : Nat → Nat
  | 0 => 0
  | k + 1 => numK f k * 256 + f k
theorem numK_lt {f : Nat → Nat} (hf : ∀ i, f i < 256) : ∀ k, numK f k < 256 ^ k
  | 0 => by show 0 < _; decide
  | k + 1 => by have h1 := numK_lt hf k; have h2 := hf k; unfold numK; rw [Nat.pow_succ]; omega
theorem wraps_u64 (n : Int) (h₀ : 0 ≤ n) (h₁ : n < 2 ^ 64) : IntKind.u64.wrap n = n := by simp [IntKind.wrap, IntKind.bits, IntKind.signed]; omega
theorem joins64 (x y : Nat) (hx1 : x < 72057594037927936) (hy : y < 256) : bits .or .u64 ((x : Int) * 256) (y : Int) = ((x * 256 + y : Nat) : Int) := by
  have := bits_join .u64 64 (by decide) wraps_u64 8 ((x : Int) * 256) (y : Int) (by omega) (by omega) (by omega) (by omega) (by omega) (by omega)
  rw [this]
  omega
set_option maxHeartbeats 800000 in
set_option maxRecDepth 100000 in
theorem number_ok (b o n cap : Nat) (f : Nat → Nat) (w : World) (h8 : 8 ≤ n) (hnc : n ≤ cap) (hc : ∀ i, i < 8 → w.cell? ⟨b, o + i, none⟩ = some (.int .u8 (f i : Nat))) (hf : ∀ i, f i < 256) :
    Calls Tryd.prog 73 #[.slice (some ⟨b, o, none⟩) n cap] w fun e w' => e = .returned (.int .u64 (numK f 8 : Nat)) ∧ w' = w := by
  have HC : Hid (∀ i, i < 8 → w.cell? ⟨b, o + i, none⟩ = some (.int .u8 (f i : Nat))) := hc
  have HF : Hid (∀ i, f i < 256) := hf
  have hcap : (8 : Int) ≤ (cap : Nat) := by omega
  clear hc hf
  go_enter Tryd.func73, Tryd.ntmps73
  go_wp2
  go_loopw [3, 9] (fun vn i wr => ∃ k : Nat, k ≤ 8 ∧ i = .int .i64 k ∧ vn = .int .u64 (numK f k : Nat) ∧ wr = w) (fun _ i _ => 8 - (intOf i).toNat)
  case atStart => exact ⟨0, by omega, rfl, rfl, rfl⟩
  case round =>
    obtain ⟨k, hk, rfl, rfl, hw⟩ := hrel
    obtain rfl := hw.symm
    by_cases hlt : k < 8
    · have ck := HC.out k hlt
      obtain ⟨x, HX⟩ : ∃ x, Hid (x = numK f k) := ⟨_, rfl⟩
      obtain ⟨y, HY⟩ : ∃ x, Hid (x = f k) := ⟨_, rfl⟩
      rw [← HX.out]
      rw [← HY.out] at ck
      have hy : y < 256 := by rw [HY.out]; exact HF.out k
      have hx : x < 72057594037927936 := by
        have h1 := numK_lt HF.out k
        have h2 : 256 ^ k ≤ 256 ^ 7 := Nat.pow_le_pow_right (by decide) (by omega)
        rw [← HX.out] at h1
        have h3 : (256 : Nat) ^ 7 = 72057594037927936 := by decide
        omega
      go_wp2
      refine ⟨⟨k + 1, by omega, rfl, ?_, trivial⟩, ?_⟩
      · refine val_eq ?_
        show _ = ((numK f k * 256 + f k : Nat) : Int)
        rw [← HX.out, ← HY.out]
        exact joins64 x y hx hy
      · simp only [intOf]; omega
    · obtain rfl : k = 8 := by omega
      go_wp2
      go_ret
      exact ⟨rfl, rfl⟩
/-- The bytes of a number, highest first. -/
def byteK (n k : Nat) : Nat := n / 256 ^ (7 - k) % 256
theorem byteK_lt (n k : Nat) : byteK n k < 256 := Nat.mod_lt _ (by decide)
set_option maxHeartbeats 800000 in
set_option maxRecDepth 100000 in
theorem put_ok (b o n cap m : Nat) (w : World) (h8 : 8 ≤ n) (hm : m < 18446744073709551616) (ht : w.there b o 8) :
    Calls Tryd.prog 74 #[.slice (some ⟨b, o, none⟩) n cap, .int .u64 (m : Nat)] w fun e w' => e = .returned (.tuple #[]) ∧ Touch w w' b o 8 ∧ ∀ k, k < 8 → w'.cell? ⟨b, o + k, none⟩ = some (.int .u8 (byteK m k : Nat)) := by
  have HT : Hid (w.there b o 8) := ht
  have hni : (8 : Int) ≤ (n : Nat) := by omega
  clear ht h8
  go_enter Tryd.func74, Tryd.ntmps74
  go_wp2
  go_loopw [1, 4] (fun vn i wr => ∃ j : Nat, j ≤ 8 ∧ i = .int .i64 ((j : Int) - 1) ∧ vn = .int .u64 (m / 256 ^ (8 - j) : Nat) ∧ Hid (Touch w wr b o 8 ∧ ∀ k, j ≤ k → k < 8 → wr.cell? ⟨b, o + k, none⟩ = some (.int .u8 (byteK m k : Nat)))) (fun _ i _ => (intOf i + 1).toNat)
  case atStart => exact ⟨8, Nat.le_refl _, rfl, by simp, Touch.refl _ _ _ _, fun k h1 h2 => by omega⟩
  case round =>
    obtain ⟨j, hj, rfl, rfl, HR⟩ := hrel
    cases j with
    | zero =>
      go_wp2
      go_end0
      exact ⟨rfl, HR.out.1, fun k hk => HR.out.2 k (Nat.zero_le _) hk⟩
    | succ q =>
      have hq1 : (((q + 1 : Nat) : Int) - 1) = (q : Nat) := by omega
      rw [hq1]
      obtain ⟨x, HX⟩ : ∃ x, Hid (x = m / 256 ^ (8 - (q + 1))) := ⟨_, rfl⟩
      rw [← HX.out]
      have hqn : ((q : Nat) : Int) < (n : Nat) := by omega
      have hq8 : ((q : Nat) : Int) < 8 := by omega
      have t := HR.out.1.there _ _ HT.out q (by omega)
      obtain ⟨t1, t2⟩ := t
      obtain ⟨v, c1⟩ := Option.isSome_iff_exists.1 t1
      clear t1
      go_wp2
      refine ⟨⟨q, by omega, rfl, val_eq ?_, ?_⟩, ?_⟩
      · have e : m / 256 ^ (8 - q) = x / 256 := by
          rw [HX.out, Nat.div_div_eq_div_mul, ← Nat.pow_succ]
          rw [show (8 - (q + 1)).succ = 8 - q by omega]
        rw [e]
        omega
      · refine ⟨HR.out.1.setCell (o + q) _ (by omega) (by omega), fun k h1 h2 => ?_⟩
        by_cases hkq : k = q
        · subst hkq
          have hv : ((x : Int) % 256) = ((byteK m k : Nat) : Int) := by
            unfold byteK
            rw [HX.out, show 8 - (k + 1) = 7 - k by omega]
            omega
          rw [World.cell?_setCell_same' _ _ _ (by rw [c1]; rfl), hv]
        · rw [World.cell?_setCell_other _ ⟨b, o + q, none⟩ ⟨b, o + k, none⟩ _ (fun e => hkq (by simp at e <;> omega))]
          exact HR.out.2 k (by omega) h2
      · simp only [intOf]; omega
theorem numK_word (f : Nat → Nat) : numK f 8 = wd (f 0) (f 1) (f 2) (f 3) * 4294967296 + wd (f 4) (f 5) (f 6) (f 7) := by
  simp only [numK, wd]
  omega
theorem halves_at (b : Nat) (s : W4) (hs : s.ok) (w : World) (hr : w.rangeAt b 0 [.int .u8 (bt0 s.a : Nat), .int .u8 (bt1 s.a : Nat), .int .u8 (bt2 s.a : Nat), .int .u8 (bt3 s.a : Nat), .int .u8 (bt0 s.b : Nat), .int .u8 (bt1 s.b : Nat), .int .u8 (bt2 s.b : Nat), .int .u8 (bt3 s.b : Nat), .int .u8 (bt0 s.c : Nat), .int .u8 (bt1 s.c : Nat), .int .u8 (bt2 s.c : Nat), .int .u8 (bt3 s.c : Nat), .int .u8 (bt0 s.d : Nat), .int .u8 (bt1 s.d : Nat), .int .u8 (bt2 s.d : Nat), .int .u8 (bt3 s.d : Nat)]) :
    (∀ u, Below (b + 1) w u → Calls Tryd.prog 73 #[.slice (some ⟨b, 0, none⟩) 8 16] u fun e u' => e = .returned (.int .u64 (s.a * 4294967296 + s.b : Nat)) ∧ u' = u) ∧
    (∀ u, Below (b + 1) w u → Calls Tryd.prog 73 #[.slice (some ⟨b, 8, none⟩) 8 8] u fun e u' => e = .returned (.int .u64 (s.c * 4294967296 + s.d : Nat)) ∧ u' = u) := by
  refine ⟨fun u hu => ?_, fun u hu => ?_⟩
  · have h := number_ok b 0 8 16 (fun i => if i = 0 then bt0 s.a else if i = 1 then bt1 s.a else if i = 2 then bt2 s.a else if i = 3 then bt3 s.a else if i = 4 then bt0 s.b else if i = 5 then bt1 s.b else if i = 6 then bt2 s.b else bt3 s.b) u (Nat.le_refl _) (by decide) (fun i hi => by
      rw [hu.cell (p := ⟨b, 0 + i, none⟩) (Nat.lt_succ_self b)]
      have h8 : i = 0 ∨ i = 1 ∨ i = 2 ∨ i = 3 ∨ i = 4 ∨ i = 5 ∨ i = 6 ∨ i = 7 := by omega
      rcases h8 with rfl | rfl | rfl | rfl | rfl | rfl | rfl | rfl <;> exact hr _ _ rfl) (fun i => by
      have := bt0_lt s.a; have := bt1_lt s.a; have := bt2_lt s.a; have := bt3_lt s.a; have := bt0_lt s.b; have := bt1_lt s.b; have := bt2_lt s.b; have := bt3_lt s.b
      repeat' split
      all_goals assumption)
    rw [numK_word] at h
    simp only [if_true, reduceIte, Nat.reduceEqDiff] at h
    rw [wd_bt hs.1, wd_bt hs.2.1] at h
    exact h
  · have h := number_ok b 8 8 8 (fun i => if i = 0 then bt0 s.c else if i = 1 then bt1 s.c else if i = 2 then bt2 s.c else if i = 3 then bt3 s.c else if i = 4 then bt0 s.d else if i = 5 then bt1 s.d else if i = 6 then bt2 s.d else bt3 s.d) u (Nat.le_refl _) (by decide) (fun i hi => by
      rw [hu.cell (p := ⟨b, 8 + i, none⟩) (Nat.lt_succ_self b)]
      have h8 : i = 0 ∨ i = 1 ∨ i = 2 ∨ i = 3 ∨ i = 4 ∨ i = 5 ∨ i = 6 ∨ i = 7 := by omega
      have hr' := fun j v hv => (by simpa using hr (8 + j) v hv : w.cell? ⟨b, 8 + j, none⟩ = some v)
      rcases h8 with rfl | rfl | rfl | rfl | rfl | rfl | rfl | rfl <;> exact hr' _ _ rfl) (fun i => by
      have := bt0_lt s.c; have := bt1_lt s.c; have := bt2_lt s.c; have := bt3_lt s.c; have := bt0_lt s.d; have := bt1_lt s.d; have := bt2_lt s.d; have := bt3_lt s.d
      repeat' split
      all_goals assumption)
    rw [numK_word] at h
    simp only [if_true, reduceIte, Nat.reduceEqDiff] at h
    rw [wd_bt hs.2.2.1, wd_bt hs.2.2.2] at h
    exact h
end Go.Proofs.YtgmfiljjogdccaaDoor
namespace Go.Proofs.YtgmfiljjogdccaaDoor
open Go.RowKit
set_option linter.unusedVariables false
theorem sl_h (b o : Nat) (w' : World) : Sem.run Tryd.prog (Instr.sliceAt 42 (.pointer (some ⟨b, o, none⟩)) none (some (.int .i64 8)) none) w' = .ok (.slice (some ⟨b, o, none⟩) 8 16) w' := by
  have h := run_sliceAt_array_h (P := Tryd.prog) w' 42 ⟨b, o, none⟩ (by kernel_rfl) .i64 8 (by omega) (by rw [show Tryd.prog.arrayLen 42 = 16 by kernel_rfl]; omega)
  rw [h, show Tryd.prog.arrayLen 42 = 16 by kernel_rfl, show Tryd.prog.elem 42 = 5 by kernel_rfl]
  have e3 : (sizeOf 5).run Tryd.prog w' = .ok 1 w' := by kernel_rfl
  rw [e3]
  simp only [Result.andThen_ok, slicedAt]
  rw [if_neg (by decide), Nat.zero_mul, Addr.add_mid]
  rfl
theorem sl_l (b o : Nat) (w' : World) : Sem.run Tryd.prog (Instr.sliceAt 42 (.pointer (some ⟨b, o, none⟩)) (some (.int .i64 8)) none none) w' = .ok (.slice (some ⟨b, o + 8, none⟩) 8 8) w' := by
  have h := run_sliceAt_array_l (P := Tryd.prog) w' 42 ⟨b, o, none⟩ (by kernel_rfl) .i64 8 (by omega) (by rw [show Tryd.prog.arrayLen 42 = 16 by kernel_rfl]; omega)
  rw [h, show Tryd.prog.arrayLen 42 = 16 by kernel_rfl, show Tryd.prog.elem 42 = 5 by kernel_rfl]
  have e3 : (sizeOf 5).run Tryd.prog w' = .ok 1 w' := by kernel_rfl
  rw [e3]
  simp only [Result.andThen_ok, slicedAt]
  rw [if_neg (by decide), Nat.mul_one, Addr.add_mid]
  rfl
set_option maxHeartbeats 1600000 in
set_option maxRecDepth 100000 in
theorem halves_ok (s : W4) (hs : s.ok) (w : World) : Calls Tryd.prog 70 #[s.blk] w fun e w' => e = .returned (.tuple #[.int .u64 (s.a * 4294967296 + s.b : Nat), .int .u64 (s.c * 4294967296 + s.d : Nat)]) ∧ Below w.heap.size w w' := by
  obtain ⟨x, HX⟩ : ∃ x, Hid (x = s.a * 4294967296 + s.b) := ⟨_, rfl⟩
  obtain ⟨y, HY⟩ : ∃ x, Hid (x = s.c * 4294967296 + s.d) := ⟨_, rfl⟩
  have hr : (w.alloc (.cells #[.int .u8 (bt0 s.a : Nat), .int .u8 (bt1 s.a : Nat), .int .u8 (bt2 s.a : Nat), .int .u8 (bt3 s.a : Nat), .int .u8 (bt0 s.b : Nat), .int .u8 (bt1 s.b : Nat), .int .u8 (bt2 s.b : Nat), .int .u8 (bt3 s.b : Nat), .int .u8 (bt0 s.c : Nat), .int .u8 (bt1 s.c : Nat), .int .u8 (bt2 s.c : Nat), .int .u8 (bt3 s.c : Nat), .int .u8 (bt0 s.d : Nat), .int .u8 (bt1 s.d : Nat), .int .u8 (bt2 s.d : Nat), .int .u8 (bt3 s.d : Nat)] 42)).rangeAt w.heap.size 0 [.int .u8 (bt0 s.a : Nat), .int .u8 (bt1 s.a : Nat), .int .u8 (bt2 s.a : Nat), .int .u8 (bt3 s.a : Nat), .int .u8 (bt0 s.b : Nat), .int .u8 (bt1 s.b : Nat), .int .u8 (bt2 s.b : Nat), .int .u8 (bt3 s.b : Nat), .int .u8 (bt0 s.c : Nat), .int .u8 (bt1 s.c : Nat), .int .u8 (bt2 s.c : Nat), .int .u8 (bt3 s.c : Nat), .int .u8 (bt0 s.d : Nat), .int .u8 (bt1 s.d : Nat), .int .u8 (bt2 s.d : Nat), .int .u8 (bt3 s.d : Nat)] := rangeAt_new w #[.int .u8 (bt0 s.a : Nat), .int .u8 (bt1 s.a : Nat), .int .u8 (bt2 s.a : Nat), .int .u8 (bt3 s.a : Nat), .int .u8 (bt0 s.b : Nat), .int .u8 (bt1 s.b : Nat), .int .u8 (bt2 s.b : Nat), .int .u8 (bt3 s.b : Nat), .int .u8 (bt0 s.c : Nat), .int .u8 (bt1 s.c : Nat), .int .u8 (bt2 s.c : Nat), .int .u8 (bt3 s.c : Nat), .int .u8 (bt0 s.d : Nat), .int .u8 (bt1 s.d : Nat), .int .u8 (bt2 s.d : Nat), .int .u8 (bt3 s.d : Nat)] 42
  obtain ⟨k1, k2⟩ := halves_at w.heap.size s hs (w.alloc (.cells #[.int .u8 (bt0 s.a : Nat), .int .u8 (bt1 s.a : Nat), .int .u8 (bt2 s.a : Nat), .int .u8 (bt3 s.a : Nat), .int .u8 (bt0 s.b : Nat), .int .u8 (bt1 s.b : Nat), .int .u8 (bt2 s.b : Nat), .int .u8 (bt3 s.b : Nat), .int .u8 (bt0 s.c : Nat), .int .u8 (bt1 s.c : Nat), .int .u8 (bt2 s.c : Nat), .int .u8 (bt3 s.c : Nat), .int .u8 (bt0 s.d : Nat), .int .u8 (bt1 s.d : Nat), .int .u8 (bt2 s.d : Nat), .int .u8 (bt3 s.d : Nat)] 42)) hr
  rw [← HX.out] at k1 ⊢
  rw [← HY.out] at k2 ⊢
  have K1 : Hid (∀ u, Below (w.heap.size + 1) (w.alloc (.cells #[.int .u8 (bt0 s.a : Nat), .int .u8 (bt1 s.a : Nat), .int .u8 (bt2 s.a : Nat), .int .u8 (bt3 s.a : Nat), .int .u8 (bt0 s.b : Nat), .int .u8 (bt1 s.b : Nat), .int .u8 (bt2 s.b : Nat), .int .u8 (bt3 s.b : Nat), .int .u8 (bt0 s.c : Nat), .int .u8 (bt1 s.c : Nat), .int .u8 (bt2 s.c : Nat), .int .u8 (bt3 s.c : Nat), .int .u8 (bt0 s.d : Nat), .int .u8 (bt1 s.d : Nat), .int .u8 (bt2 s.d : Nat), .int .u8 (bt3 s.d : Nat)] 42)) u → Calls Tryd.prog 73 #[.slice (some ⟨w.heap.size, 0, none⟩) 8 16] u fun e u' => e = .returned (.int .u64 (x : Nat)) ∧ u' = u) := k1
  have K2 : Hid (∀ u, Below (w.heap.size + 1) (w.alloc (.cells #[.int .u8 (bt0 s.a : Nat), .int .u8 (bt1 s.a : Nat), .int .u8 (bt2 s.a : Nat), .int .u8 (bt3 s.a : Nat), .int .u8 (bt0 s.b : Nat), .int .u8 (bt1 s.b : Nat), .int .u8 (bt2 s.b : Nat), .int .u8 (bt3 s.b : Nat), .int .u8 (bt0 s.c : Nat), .int .u8 (bt1 s.c : Nat), .int .u8 (bt2 s.c : Nat), .int .u8 (bt3 s.c : Nat), .int .u8 (bt0 s.d : Nat), .int .u8 (bt1 s.d : Nat), .int .u8 (bt2 s.d : Nat), .int .u8 (bt3 s.d : Nat)] 42)) u → Calls Tryd.prog 73 #[.slice (some ⟨w.heap.size, 8, none⟩) 8 8] u fun e u' => e = .returned (.int .u64 (y : Nat)) ∧ u' = u) := k2
  have e1 := sl_h w.heap.size 0
  have e2 := sl_l w.heap.size 0
  clear k1 k2 hr hs
  show Calls Tryd.prog 70 #[.agg #[.int .u8 (bt0 s.a : Nat), .int .u8 (bt1 s.a : Nat), .int .u8 (bt2 s.a : Nat), .int .u8 (bt3 s.a : Nat), .int .u8 (bt0 s.b : Nat), .int .u8 (bt1 s.b : Nat), .int .u8 (bt2 s.b : Nat), .int .u8 (bt3 s.b : Nat), .int .u8 (bt0 s.c : Nat), .int .u8 (bt1 s.c : Nat), .int .u8 (bt2 s.c : Nat), .int .u8 (bt3 s.c : Nat), .int .u8 (bt0 s.d : Nat), .int .u8 (bt1 s.d : Nat), .int .u8 (bt2 s.d : Nat), .int .u8 (bt3 s.d : Nat)]] w _
  go_enter Tryd.func70, Tryd.ntmps70
  go_upto_region 1 with fail
  refine wp_region_noPanic ?_
  refine wp_region_held_drew (S := fun u => Below (w.heap.size + 1) (w.alloc (.cells #[.int .u8 (bt0 s.a : Nat), .int .u8 (bt1 s.a : Nat), .int .u8 (bt2 s.a : Nat), .int .u8 (bt3 s.a : Nat), .int .u8 (bt0 s.b : Nat), .int .u8 (bt1 s.b : Nat), .int .u8 (bt2 s.b : Nat), .int .u8 (bt3 s.b : Nat), .int .u8 (bt0 s.c : Nat), .int .u8 (bt1 s.c : Nat), .int .u8 (bt2 s.c : Nat), .int .u8 (bt3 s.c : Nat), .int .u8 (bt0 s.d : Nat), .int .u8 (bt1 s.d : Nat), .int .u8 (bt2 s.d : Nat), .int .u8 (bt3 s.d : Nat)] 42)) u) (by kernel_rfl) ((Below.refl _ _).drew) (fun _ => ?_)
  refine takeH_at 0 4 (.slice (some ⟨w.heap.size, 0, none⟩) 8 16) rfl rfl (by kernel_rfl) (by kernel_rfl) (by kernel_rfl) (fun _ _ _ h => h) ((Below.refl _ _).drew) (Or.inl ⟨by rfl, fun w' hS' => by go_simp⟩) ?_
  simp only [List.setIfInBounds_toArray, List.set_cons_zero, List.set_cons_succ]
  refine takeH_at 2 6 (.slice (some ⟨w.heap.size, 8, none⟩) 8 8) rfl rfl (by kernel_rfl) (by kernel_rfl) (by kernel_rfl) (fun _ _ _ h => h) ((Below.refl _ _).drew) (Or.inl ⟨by rfl, fun w' hS' => by go_simp⟩) ?_
  simp only [List.setIfInBounds_toArray, List.set_cons_zero, List.set_cons_succ]
  refine wpAnyH_ready (rs := [1]) (by kernel_rfl) (by simp) ?_
  refine AllReadyH.cons rfl (fun K hK => ?_) AllReadyH.nil
  go_simp
  refine (K1.out _ (Below.refl _ _).drew).mono ?_
  rintro e1 w1 ⟨rfl, hw1⟩
  obtain rfl := hw1.symm
  go_wp2_with fail
  refine hK.out _ _ ((Below.refl _ _).drew) (fun _ => ?_)
  clear hK K
  try simp only [List.setIfInBounds_toArray, List.set_cons_zero, List.set_cons_succ]
  refine wpAnyH_ready (rs := [3]) (by kernel_rfl) (by simp) ?_
  refine AllReadyH.cons rfl (fun K hK => ?_) AllReadyH.nil
  go_simp
  refine (K2.out _ (Below.refl _ _).drew).mono ?_
  rintro e1 w1 ⟨rfl, hw1⟩
  obtain rfl := hw1.symm
  go_wp2_with fail
  refine hK.out _ _ ((Below.refl _ _).drew) (fun _ => ?_)
  clear hK K
  try simp only [List.setIfInBounds_toArray, List.set_cons_zero, List.set_cons_succ]
  refine takeH_at 4 2 (.int .u64 (x : Nat)) rfl rfl (by kernel_rfl) (by kernel_rfl) (by kernel_rfl) (fun _ _ _ h => h) ((Below.refl _ _).drew) (Or.inl ⟨by rfl, fun w' hS' => by go_simp⟩) ?_
  simp only [List.setIfInBounds_toArray, List.set_cons_zero, List.set_cons_succ]
  refine takeH_at 5 3 (.int .u64 (y : Nat)) rfl rfl (by kernel_rfl) (by kernel_rfl) (by kernel_rfl) (fun _ _ _ h => h) ((Below.refl _ _).drew) (Or.inl ⟨by rfl, fun w' hS' => by go_simp⟩) ?_
  simp only [List.setIfInBounds_toArray, List.set_cons_zero, List.set_cons_succ]
  refine wpAnyH_done (by kernel_rfl) ?_ _
  refine NoPanic.normal ?_
  go_wp2
  go_ret2
  exact ⟨rfl, ((Below.refl _ w).alloc (Nat.le_refl _) _).drew⟩
/-- A block out of its halves. -/
def joinW (h l : Nat) : W4 := ⟨h / 4294967296, h % 4294967296, l / 4294967296, l % 4294967296⟩
theorem joinW_ok {h l : Nat} (hh : h < 18446744073709551616) (hl : l < 18446744073709551616) : (joinW h l).ok := by unfold joinW W4.ok; simp only; omega
theorem byteK_hi (n : Nat) (h : n < 18446744073709551616) : byteK n 0 = bt0 (n / 4294967296) ∧ byteK n 1 = bt1 (n / 4294967296) ∧ byteK n 2 = bt2 (n / 4294967296) ∧ byteK n 3 = bt3 (n / 4294967296) ∧ byteK n 4 = bt0 (n % 4294967296) ∧ byteK n 5 = bt1 (n % 4294967296) ∧ byteK n 6 = bt2 (n % 4294967296) ∧ byteK n 7 = bt3 (n % 4294967296) := by
  have e0 : byteK n 0 = n / 72057594037927936 % 256 := rfl
  have e1 : byteK n 1 = n / 281474976710656 % 256 := rfl
  have e2 : byteK n 2 = n / 1099511627776 % 256 := rfl
  have e3 : byteK n 3 = n / 4294967296 % 256 := rfl
  have e4 : byteK n 4 = n / 16777216 % 256 := rfl
  have e5 : byteK n 5 = n / 65536 % 256 := rfl
  have e6 : byteK n 6 = n / 256 % 256 := rfl
  have e7 : byteK n 7 = n / 1 % 256 := rfl
  unfold bt0 bt1 bt2 bt3
  rw [e0, e1, e2, e3, e4, e5, e6, e7]
  refine ⟨?_, ?_, ?_, ?_, ?_, ?_, ?_, ?_⟩ <;> omega
set_option maxHeartbeats 1600000 in
set_option maxRecDepth 100000 in
theorem join_ok (h l : Nat) (hh : h < 18446744073709551616) (hl : l < 18446744073709551616) (w : World) : Calls Tryd.prog 72 #[.int .u64 (h : Nat), .int .u64 (l : Nat)] w fun e w' => e = .returned (joinW h l).blk ∧ Below w.heap.size w w' := by
  have HH : Hid (h < 18446744073709551616) := hh
  have HL : Hid (l < 18446744073709551616) := hl
  have e1 := sl_h (w.heap.size + 1) 0
  have e2 := sl_l (w.heap.size + 1) 0
  have HT : Hid (((w.alloc (.cells #[.int .u8 0, .int .u8 0, .int .u8 0, .int .u8 0, .int .u8 0, .int .u8 0, .int .u8 0, .int .u8 0, .int .u8 0, .int .u8 0, .int .u8 0, .int .u8 0, .int .u8 0, .int .u8 0, .int .u8 0, .int .u8 0] 42)).alloc (.cells #[.int .u8 0, .int .u8 0, .int .u8 0, .int .u8 0, .int .u8 0, .int .u8 0, .int .u8 0, .int .u8 0, .int .u8 0, .int .u8 0, .int .u8 0, .int .u8 0, .int .u8 0, .int .u8 0, .int .u8 0, .int .u8 0] 42)).there (w.heap.size + 1) 0 16 ∧ ((w.alloc (.cells #[.int .u8 0, .int .u8 0, .int .u8 0, .int .u8 0, .int .u8 0, .int .u8 0, .int .u8 0, .int .u8 0, .int .u8 0, .int .u8 0, .int .u8 0, .int .u8 0, .int .u8 0, .int .u8 0, .int .u8 0, .int .u8 0] 42)).alloc (.cells #[.int .u8 0, .int .u8 0, .int .u8 0, .int .u8 0, .int .u8 0, .int .u8 0, .int .u8 0, .int .u8 0, .int .u8 0, .int .u8 0, .int .u8 0, .int .u8 0, .int .u8 0, .int .u8 0, .int .u8 0, .int .u8 0] 42)).there w.heap.size 0 16 ∧ Below w.heap.size w ((w.alloc (.cells #[.int .u8 0, .int .u8 0, .int .u8 0, .int .u8 0, .int .u8 0, .int .u8 0, .int .u8 0, .int .u8 0, .int .u8 0, .int .u8 0, .int .u8 0, .int .u8 0, .int .u8 0, .int .u8 0, .int .u8 0, .int .u8 0] 42)).alloc (.cells #[.int .u8 0, .int .u8 0, .int .u8 0, .int .u8 0, .int .u8 0, .int .u8 0, .int .u8 0, .int .u8 0, .int .u8 0, .int .u8 0, .int .u8 0, .int .u8 0, .int .u8 0, .int .u8 0, .int .u8 0, .int .u8 0] 42)) ∧ ((w.alloc (.cells #[.int .u8 0, .int .u8 0, .int .u8 0, .int .u8 0, .int .u8 0, .int .u8 0, .int .u8 0, .int .u8 0, .int .u8 0, .int .u8 0, .int .u8 0, .int .u8 0, .int .u8 0, .int .u8 0, .int .u8 0, .int .u8 0] 42)).alloc (.cells #[.int .u8 0, .int .u8 0, .int .u8 0, .int .u8 0, .int .u8 0, .int .u8 0, .int .u8 0, .int .u8 0, .int .u8 0, .int .u8 0, .int .u8 0, .int .u8 0, .int .u8 0, .int .u8 0, .int .u8 0, .int .u8 0] 42)).heap.size = w.heap.size + 2) :=
    ⟨there_two w _ _ 42 42 rfl, World.there_alloc (there_new w _ 42 16 (Nat.le_refl _)) _, (two_allocs w _ _ 42 42).1, by simp⟩
  clear hh hl
  go_enter Tryd.func72, Tryd.ntmps72
  go_upto_region 2 with fail
  generalize (w.alloc (.cells #[.int .u8 0, .int .u8 0, .int .u8 0, .int .u8 0, .int .u8 0, .int .u8 0, .int .u8 0, .int .u8 0, .int .u8 0, .int .u8 0, .int .u8 0, .int .u8 0, .int .u8 0, .int .u8 0, .int .u8 0, .int .u8 0] 42)).alloc (.cells #[.int .u8 0, .int .u8 0, .int .u8 0, .int .u8 0, .int .u8 0, .int .u8 0, .int .u8 0, .int .u8 0, .int .u8 0, .int .u8 0, .int .u8 0, .int .u8 0, .int .u8 0, .int .u8 0, .int .u8 0, .int .u8 0] 42) = w2 at HT ⊢
  have K1 : Hid (Calls Tryd.prog 74 #[.slice (some ⟨w.heap.size + 1, 0, none⟩) 8 16, .int .u64 (h : Nat)] w2 fun e w' => e = .returned (.tuple #[]) ∧ Touch w2 w' (w.heap.size + 1) 0 8 ∧ ∀ k, k < 8 → w'.cell? ⟨w.heap.size + 1, 0 + k, none⟩ = some (.int .u8 (byteK h k : Nat))) := put_ok (w.heap.size + 1) 0 8 16 h w2 (Nat.le_refl _) HH.out (fun j hj => HT.out.1 j (by omega))
  go_wp2_with (first | (go_at_call 74; refine K1.out.mono ?_))
  rintro e3 w3 ⟨rfl, ht3, hc3⟩
  have K2 : Hid (Calls Tryd.prog 74 #[.slice (some ⟨w.heap.size + 1, 8, none⟩) 8 8, .int .u64 (l : Nat)] w3 fun e w' => e = .returned (.tuple #[]) ∧ Touch w3 w' (w.heap.size + 1) 8 8 ∧ ∀ k, k < 8 → w'.cell? ⟨w.heap.size + 1, 8 + k, none⟩ = some (.int .u8 (byteK l k : Nat))) := put_ok (w.heap.size + 1) 8 8 8 l w3 (Nat.le_refl _) HL.out (fun j hj => by have := ht3.there _ _ HT.out.1 (8 + j) (by omega); rw [Nat.zero_add] at this; exact this)
  have H3 : Hid (Touch w2 w3 (w.heap.size + 1) 0 8 ∧ ∀ k, k < 8 → w3.cell? ⟨w.heap.size + 1, 0 + k, none⟩ = some (.int .u8 (byteK h k : Nat))) := ⟨ht3, hc3⟩
  clear ht3 hc3 K1
  go_wp2_with (first | (go_at_call 74; refine K2.out.mono ?_))
  rintro e4 w4 ⟨rfl, ht4, hc4⟩
  have H4 : Hid (w4.rangeAt (w.heap.size + 1) 0 [.int .u8 (byteK h 0 : Nat), .int .u8 (byteK h 1 : Nat), .int .u8 (byteK h 2 : Nat), .int .u8 (byteK h 3 : Nat), .int .u8 (byteK h 4 : Nat), .int .u8 (byteK h 5 : Nat), .int .u8 (byteK h 6 : Nat), .int .u8 (byteK h 7 : Nat), .int .u8 (byteK l 0 : Nat), .int .u8 (byteK l 1 : Nat), .int .u8 (byteK l 2 : Nat), .int .u8 (byteK l 3 : Nat), .int .u8 (byteK l 4 : Nat), .int .u8 (byteK l 5 : Nat), .int .u8 (byteK l 6 : Nat), .int .u8 (byteK l 7 : Nat)] ∧ w4.there w.heap.size 0 16 ∧ Below w.heap.size w w4) := by
    obtain ⟨t1, t2, t3, t4⟩ := HT.out
    obtain ⟨p1, p2⟩ := H3.out
    have hs1 := p1.size
    have hs2 := ht4.size
    refine ⟨fun j v hv => ?_, fun j hj => ?_, ?_⟩
    · have hj : j < 16 := (List.getElem?_eq_some_iff.1 hv).1
      have h16 : j = 0 ∨ j = 1 ∨ j = 2 ∨ j = 3 ∨ j = 4 ∨ j = 5 ∨ j = 6 ∨ j = 7 ∨ j = 8 ∨ j = 9 ∨ j = 10 ∨ j = 11 ∨ j = 12 ∨ j = 13 ∨ j = 14 ∨ j = 15 := by omega
      have q1 : ∀ k, k < 8 → w4.cell? ⟨w.heap.size + 1, 0 + k, none⟩ = some (.int .u8 (byteK h k : Nat)) := fun k hk => (ht4.cell _ (by omega)).trans (p2 k hk)
      have q2 : ∀ k, k < 8 → w4.cell? ⟨w.heap.size + 1, 0 + (8 + k), none⟩ = some (.int .u8 (byteK l k : Nat)) := fun k hk => by rw [Nat.zero_add]; exact hc4 k hk
      rcases h16 with rfl | rfl | rfl | rfl | rfl | rfl | rfl | rfl | rfl | rfl | rfl | rfl | rfl | rfl | rfl | rfl
      all_goals (obtain rfl := Option.some.inj hv)
      all_goals first | exact q1 _ (by omega) | exact q2 0 (by omega) | exact q2 1 (by omega) | exact q2 2 (by omega) | exact q2 3 (by omega) | exact q2 4 (by omega) | exact q2 5 (by omega) | exact q2 6 (by omega) | exact q2 7 (by omega)
    · rw [ht4.far (p := ⟨w.heap.size, 0 + j, none⟩) (show w.heap.size < _ by omega) (show w.heap.size ≠ _ by omega), ht4.farFrozen (p := ⟨w.heap.size, 0 + j, none⟩) (show w.heap.size < _ by omega) (show w.heap.size ≠ _ by omega), p1.far (p := ⟨w.heap.size, 0 + j, none⟩) (show w.heap.size < _ by omega) (show w.heap.size ≠ _ by omega), p1.farFrozen (p := ⟨w.heap.size, 0 + j, none⟩) (show w.heap.size < _ by omega) (show w.heap.size ≠ _ by omega)]
      exact t2 j hj
    · exact (t3.trans (p1.toBelow (Nat.le_succ _) (by omega))).trans (ht4.toBelow (Nat.le_succ _) (by omega))
  clear ht4 hc4 K2 H3
  have hl4 := run_loadVar_mid (P := Tryd.prog) w4 (w.heap.size + 1) 0 42 [.int .u8 (byteK h 0 : Nat), .int .u8 (byteK h 1 : Nat), .int .u8 (byteK h 2 : Nat), .int .u8 (byteK h 3 : Nat), .int .u8 (byteK h 4 : Nat), .int .u8 (byteK h 5 : Nat), .int .u8 (byteK h 6 : Nat), .int .u8 (byteK h 7 : Nat), .int .u8 (byteK l 0 : Nat), .int .u8 (byteK l 1 : Nat), .int .u8 (byteK l 2 : Nat), .int .u8 (byteK l 3 : Nat), .int .u8 (byteK l 4 : Nat), .int .u8 (byteK l 5 : Nat), .int .u8 (byteK l 6 : Nat), .int .u8 (byteK l 7 : Nat)] _ H4.out.1 Tryd.underlying42 rfl size42
  go_wp2_with (first
    | (refine wpList_load_mid (by rfl) 42 (.tmp 5) (by rfl) (w.heap.size + 1) 0 (by rfl) [.int .u8 (byteK h 0 : Nat), .int .u8 (byteK h 1 : Nat), .int .u8 (byteK h 2 : Nat), .int .u8 (byteK h 3 : Nat), .int .u8 (byteK h 4 : Nat), .int .u8 (byteK h 5 : Nat), .int .u8 (byteK h 6 : Nat), .int .u8 (byteK h 7 : Nat), .int .u8 (byteK l 0 : Nat), .int .u8 (byteK l 1 : Nat), .int .u8 (byteK l 2 : Nat), .int .u8 (byteK l 3 : Nat), .int .u8 (byteK l 4 : Nat), .int .u8 (byteK l 5 : Nat), .int .u8 (byteK l 6 : Nat), .int .u8 (byteK l 7 : Nat)] _ H4.out.1 Tryd.underlying42 rfl size42 ?_)
    | (refine wpList_store_mid (by rfl) 42 (.tmp 4) (.tmp 12) (by rfl) w.heap.size 0 ([.int .u8 (byteK h 0 : Nat), .int .u8 (byteK h 1 : Nat), .int .u8 (byteK h 2 : Nat), .int .u8 (byteK h 3 : Nat), .int .u8 (byteK h 4 : Nat), .int .u8 (byteK h 5 : Nat), .int .u8 (byteK h 6 : Nat), .int .u8 (byteK h 7 : Nat), .int .u8 (byteK l 0 : Nat), .int .u8 (byteK l 1 : Nat), .int .u8 (byteK l 2 : Nat), .int .u8 (byteK l 3 : Nat), .int .u8 (byteK l 4 : Nat), .int .u8 (byteK l 5 : Nat), .int .u8 (byteK l 6 : Nat), .int .u8 (byteK l 7 : Nat)]).toArray (by rfl) (by rfl) H4.out.2.1 size42 (by kernel_rfl) ?_)
    | fail)
  refine ret_array [.int .u8 (byteK h 0 : Nat), .int .u8 (byteK h 1 : Nat), .int .u8 (byteK h 2 : Nat), .int .u8 (byteK h 3 : Nat), .int .u8 (byteK h 4 : Nat), .int .u8 (byteK h 5 : Nat), .int .u8 (byteK h 6 : Nat), .int .u8 (byteK h 7 : Nat), .int .u8 (byteK l 0 : Nat), .int .u8 (byteK l 1 : Nat), .int .u8 (byteK l 2 : Nat), .int .u8 (byteK l 3 : Nat), .int .u8 (byteK l 4 : Nat), .int .u8 (byteK l 5 : Nat), .int .u8 (byteK l 6 : Nat), .int .u8 (byteK l 7 : Nat)] Tryd.results72 rfl (World.rangeAt_setCells_same _ _ _ _ H4.out.2.1) Tryd.underlying42 rfl size42 ⟨?_, belowB_setCells _ (Nat.le_refl _) _ _ _ H4.out.2.2⟩
  obtain ⟨a0, a1, a2, a3, a4, a5, a6, a7⟩ := byteK_hi h HH.out
  obtain ⟨b0, b1, b2, b3, b4, b5, b6, b7⟩ := byteK_hi l HL.out
  rw [a0, a1, a2, a3, a4, a5, a6, a7, b0, b1, b2, b3, b4, b5, b6, b7]
  exact rfl
end Go.Proofs.YtgmfiljjogdccaaDoor
namespace Go.Proofs.YtgmfiljjogdccaaDoor
open Go.RowKit
set_option linter.unusedVariables false
/-- The bytes of a block. -/
def W4.bytes (s0 : W4) : List Value := [.int .u8 (bt0 s0.a : Nat), .int .u8 (bt1 s0.a : Nat), .int .u8 (bt2 s0.a : Nat), .int .u8 (bt3 s0.a : Nat), .int .u8 (bt0 s0.b : Nat), .int .u8 (bt1 s0.b : Nat), .int .u8 (bt2 s0.b : Nat), .int .u8 (bt3 s0.b : Nat), .int .u8 (bt0 s0.c : Nat), .int .u8 (bt1 s0.c : Nat), .int .u8 (bt2 s0.c : Nat), .int .u8 (bt3 s0.c : Nat), .int .u8 (bt0 s0.d : Nat), .int .u8 (bt1 s0.d : Nat), .int .u8 (bt2 s0.d : Nat), .int .u8 (bt3 s0.d : Nat)]
/-- A stream at t: its key at g, where it began, how far it is. -/
structure StreamAt (w : World) (t g : Nat) (s0 : W4) (n : Nat) : Prop where
  key : w.cell? ⟨t, 0, none⟩ = some (.pointer (some ⟨g, 0, none⟩))
  start : w.rangeAt t 1 s0.bytes
  pos : w.cell? ⟨t, 17, none⟩ = some (.int .u64 (n : Nat))
  room : w.there t 0 18
  here : t < w.heap.size
  ok : s0.ok
  most : n ≤ 1099511627776
theorem StreamAt.below {B : Nat} {w w' : World} {t g n : Nat} {s0 : W4} (h : StreamAt w t g s0 n) (hb : Below B w w') (ht : t < B) : StreamAt w' t g s0 n :=
  ⟨(hb.cell ht).trans h.key, fun j v hv => (hb.cell ht).trans (h.start j v hv), (hb.cell ht).trans h.pos, there_below h.room hb ht, Nat.lt_of_lt_of_le h.here hb.size, h.ok, h.most⟩
theorem left_ok (t g n : Nat) (s0 : W4) (w : World) (h : StreamAt w t g s0 n) : Calls Tryd.prog 47 #[.pointer (some ⟨t, 0, none⟩)] w fun e w' => e = .returned (.int .u64 (1099511627776 - n : Nat)) ∧ w' = w := by
  have c := h.pos
  have hn := h.most
  clear h
  go_enter Tryd.func47, Tryd.ntmps47
  go_wp2
  go_ret
  exact ⟨ret_int (by omega), rfl⟩
/-- The block whose encryption holds byte 16 k. -/
def ctrW (s0 : W4) (k : Nat) : W4 :=
  joinW ((s0.a * 4294967296 + s0.b + (s0.c * 4294967296 + s0.d + k) / 18446744073709551616) % 18446744073709551616) ((s0.c * 4294967296 + s0.d + k) % 18446744073709551616)
theorem ctrW_ok (s0 : W4) (k : Nat) : (ctrW s0 k).ok := joinW_ok (Nat.mod_lt _ (by decide)) (Nat.mod_lt _ (by decide))
theorem add64_run (x y : Nat) (w : World) : (callFunc 71 #[.int .u64 (x : Nat), .int .u64 (y : Nat), .int .u64 0]).run Tryd.prog w = .ok (.value (.tuple #[.int .u64 ((x + y) % 18446744073709551616 : Nat), .int .u64 ((x + y) / 18446744073709551616 : Nat)])) w := by
  have h := run_callFunc_extern (P := Tryd.prog) Tryd.func71 (by kernel_rfl) (by kernel_rfl) (by kernel_rfl) (e := add64Entry) (by kernel_rfl) #[.int .u64 (x : Nat), .int .u64 (y : Nat), .int .u64 0] w
  rw [h, run_add64 (P := Tryd.prog) (x : Nat) (y : Nat) 0 (by omega) (by omega) (by omega) (by omega) w]
  simp only [Result.andThen_ok]
  rw [show (((x : Nat) : Int) + ((y : Nat) : Int) + 0) % 18446744073709551616 = (((x + y) % 18446744073709551616 : Nat) : Int) by omega, show (((x : Nat) : Int) + ((y : Nat) : Int) + 0) / 18446744073709551616 = (((x + y) / 18446744073709551616 : Nat) : Int) by omega]
set_option maxHeartbeats 1600000 in
set_option maxRecDepth 100000 in
theorem counter_ok (t g n : Nat) (s0 : W4) (w : World) (h : StreamAt w t g s0 n) : Calls Tryd.prog 48 #[.pointer (some ⟨t, 0, none⟩)] w fun e w' => e = .returned (ctrW s0 (n / 16)).blk ∧ Below w.heap.size w w' := by
  obtain ⟨hi, HHI⟩ : ∃ x, Hid (x = s0.a * 4294967296 + s0.b) := ⟨_, rfl⟩
  obtain ⟨lo, HLO⟩ : ∃ x, Hid (x = s0.c * 4294967296 + s0.d) := ⟨_, rfl⟩
  obtain ⟨k, HK⟩ : ∃ x, Hid (x = n / 16) := ⟨_, rfl⟩
  have HW : Hid (StreamAt w t g s0 n) := h
  have HB1 : Hid (Below w.heap.size w (w.alloc (.cells #[.int .u8 0, .int .u8 0, .int .u8 0, .int .u8 0, .int .u8 0, .int .u8 0, .int .u8 0, .int .u8 0, .int .u8 0, .int .u8 0, .int .u8 0, .int .u8 0, .int .u8 0, .int .u8 0, .int .u8 0, .int .u8 0] 42))) := (Below.refl _ w).alloc (Nat.le_refl _) _
  have HS1 : Hid (StreamAt (w.alloc (.cells #[.int .u8 0, .int .u8 0, .int .u8 0, .int .u8 0, .int .u8 0, .int .u8 0, .int .u8 0, .int .u8 0, .int .u8 0, .int .u8 0, .int .u8 0, .int .u8 0, .int .u8 0, .int .u8 0, .int .u8 0, .int .u8 0] 42)) t g s0 n) := h.below HB1.out h.here
  have HR1 : Hid ((w.alloc (.cells #[.int .u8 0, .int .u8 0, .int .u8 0, .int .u8 0, .int .u8 0, .int .u8 0, .int .u8 0, .int .u8 0, .int .u8 0, .int .u8 0, .int .u8 0, .int .u8 0, .int .u8 0, .int .u8 0, .int .u8 0, .int .u8 0] 42)).there w.heap.size 0 16) := there_new w _ 42 16 (Nat.le_refl _)
  have HSZ : Hid ((w.alloc (.cells #[.int .u8 0, .int .u8 0, .int .u8 0, .int .u8 0, .int .u8 0, .int .u8 0, .int .u8 0, .int .u8 0, .int .u8 0, .int .u8 0, .int .u8 0, .int .u8 0, .int .u8 0, .int .u8 0, .int .u8 0, .int .u8 0] 42)).heap.size = w.heap.size + 1) := by show _ = _; simp
  have HV : Hid (∀ u, Calls Tryd.prog 70 #[.agg #[.int .u8 (bt0 s0.a : Nat), .int .u8 (bt1 s0.a : Nat), .int .u8 (bt2 s0.a : Nat), .int .u8 (bt3 s0.a : Nat), .int .u8 (bt0 s0.b : Nat), .int .u8 (bt1 s0.b : Nat), .int .u8 (bt2 s0.b : Nat), .int .u8 (bt3 s0.b : Nat), .int .u8 (bt0 s0.c : Nat), .int .u8 (bt1 s0.c : Nat), .int .u8 (bt2 s0.c : Nat), .int .u8 (bt3 s0.c : Nat), .int .u8 (bt0 s0.d : Nat), .int .u8 (bt1 s0.d : Nat), .int .u8 (bt2 s0.d : Nat), .int .u8 (bt3 s0.d : Nat)]] u fun e u' => e = .returned (.tuple #[.int .u64 (hi : Nat), .int .u64 (lo : Nat)]) ∧ Below u.heap.size u u') := fun u => by rw [HHI.out, HLO.out]; exact halves_ok s0 h.ok u
  have hadd : ∀ u, (callFunc 71 #[.int .u64 (lo : Nat), .int .u64 (k : Nat), .int .u64 0]).run Tryd.prog u = .ok (.value (.tuple #[.int .u64 ((lo + k) % 18446744073709551616 : Nat), .int .u64 ((lo + k) / 18446744073709551616 : Nat)])) u := add64_run lo k
  obtain ⟨lo', HLO'⟩ : ∃ x, Hid (x = (lo + k) % 18446744073709551616) := ⟨_, rfl⟩
  obtain ⟨cy, HCY⟩ : ∃ x, Hid (x = (lo + k) / 18446744073709551616) := ⟨_, rfl⟩
  rw [← HLO'.out, ← HCY.out] at hadd
  have hdiv : ((n : Nat) : Int) / 16 = (k : Nat) := by have := HK.out; omega
  have hn40 := h.most
  clear h
  go_enter Tryd.func48, Tryd.ntmps48
  go_upto_region 1 with fail
  generalize w.alloc (.cells #[.int .u8 0, .int .u8 0, .int .u8 0, .int .u8 0, .int .u8 0, .int .u8 0, .int .u8 0, .int .u8 0, .int .u8 0, .int .u8 0, .int .u8 0, .int .u8 0, .int .u8 0, .int .u8 0, .int .u8 0, .int .u8 0] 42) = w1 at HB1 HS1 HR1 HSZ ⊢
  have cp : w1.cell? ⟨t, 17, none⟩ = some (.int .u64 (n : Nat)) := HS1.out.pos
  go_wp2_with (first
    | (refine wpList_load_mid (by rfl) 42 (.tmp 9) (by rfl) t 1 (by rfl) [.int .u8 (bt0 s0.a : Nat), .int .u8 (bt1 s0.a : Nat), .int .u8 (bt2 s0.a : Nat), .int .u8 (bt3 s0.a : Nat), .int .u8 (bt0 s0.b : Nat), .int .u8 (bt1 s0.b : Nat), .int .u8 (bt2 s0.b : Nat), .int .u8 (bt3 s0.b : Nat), .int .u8 (bt0 s0.c : Nat), .int .u8 (bt1 s0.c : Nat), .int .u8 (bt2 s0.c : Nat), .int .u8 (bt3 s0.c : Nat), .int .u8 (bt0 s0.d : Nat), .int .u8 (bt1 s0.d : Nat), .int .u8 (bt2 s0.d : Nat), .int .u8 (bt3 s0.d : Nat)] _ HS1.out.start Tryd.underlying42 rfl size42 ?_)
    | (go_at_call 70; refine (HV.out _).mono ?_))
  rintro e2 w2 ⟨rfl, hb2⟩
  have HB2 : Hid (Below w1.heap.size w1 w2) := hb2
  have cp2 : w2.cell? ⟨t, 17, none⟩ = some (.int .u64 (n : Nat)) := (hb2.cell HS1.out.here).trans cp
  clear hb2
  obtain ⟨hi', HHI'⟩ : ∃ x, Hid (x = (hi + cy) % 18446744073709551616) := ⟨_, rfl⟩
  have hwr : IntKind.u64.wrap ((hi : Int) + (cy : Int)) = ((hi' : Nat) : Int) := by rw [HHI'.out]; simp [IntKind.wrap, IntKind.bits, IntKind.signed]
  have KJ : Hid (∀ u, Calls Tryd.prog 72 #[.int .u64 (hi' : Nat), .int .u64 (lo' : Nat)] u fun e u' => e = .returned (.agg (joinW hi' lo').bytes.toArray) ∧ Below u.heap.size u u') := fun u => join_ok hi' lo' (by rw [HHI'.out]; exact Nat.mod_lt _ (by decide)) (by rw [HLO'.out]; exact Nat.mod_lt _ (by decide)) u
  obtain ⟨L, HL⟩ : ∃ L, Hid (L = (joinW hi' lo').bytes) := ⟨_, rfl⟩
  rw [← HL.out] at KJ
  have HLl : Hid (L.length = 16) := by show _ = _; rw [HL.out]; rfl
  have HLo : Hid (L.toArray.all (·.oneCell') = true) := by show _ = _; rw [HL.out]; kernel_rfl
  go_wp2_with (first | (go_at_call 72; refine (KJ.out _).mono ?_))
  rintro e3 w3 ⟨rfl, hb3⟩
  have H3 : Hid (w3.there w.heap.size 0 L.length ∧ Below w.heap.size w w3) := by
    have hz := HSZ.out
    have h2 := HB2.out.size
    have hb : Below w1.heap.size w1 w3 := HB2.out.trans (hb3.mono h2)
    rw [HLl.out]
    exact ⟨there_below HR1.out hb (by omega), HB1.out.trans (hb.mono (by omega))⟩
  clear hb3 KJ
  have hst : Sem.run Tryd.prog (storeCells ⟨w.heap.size, 0, none⟩ L) w3 = .ok () (w3.setCells w.heap.size 0 L) :=
    run_storeCells_cells (P := Tryd.prog) w.heap.size 0 L 0 w3 (fun j hj => by have := (H3.out.1 j hj).1; simpa using this) (fun j hj => by have := (H3.out.1 j hj).2; simpa using this) (fun v hv => (Array.all_eq_true_iff_forall_mem.1 HLo.out) v (by simpa using hv))
  have hll := HLl.out
  go_wp2_with (first
    | (refine wpList_store_mid (by rfl) 42 (.tmp 2) (.tmp 28) (by rfl) w.heap.size 0 L.toArray (by rfl) (by rfl) H3.out.1 (by rw [List.size_toArray, HLl.out]; exact size42) HLo.out ?_)
    | fail)
  refine ret_array L Tryd.results48 rfl (World.rangeAt_setCells_same _ _ _ _ H3.out.1) Tryd.underlying42 rfl (by rw [HLl.out]; exact size42) ⟨?_, belowB_setCells _ (Nat.le_refl _) _ _ _ H3.out.2⟩
  rw [HL.out, HHI'.out, HLO'.out, HCY.out, HHI.out, HLO.out, HK.out]
  exact rfl
end Go.Proofs.YtgmfiljjogdccaaDoor
namespace Go.Proofs.YtgmfiljjogdccaaDoor
open Go.RowKit Go.RwLone
set_option linter.unusedVariables false
theorem stream_alloc (w : World) (g : Nat) (s0 : W4) (hs : s0.ok) : StreamAt (w.alloc (.cells #[.pointer (some ⟨g, 0, none⟩), .int .u8 (bt0 s0.a : Nat), .int .u8 (bt1 s0.a : Nat), .int .u8 (bt2 s0.a : Nat), .int .u8 (bt3 s0.a : Nat), .int .u8 (bt0 s0.b : Nat), .int .u8 (bt1 s0.b : Nat), .int .u8 (bt2 s0.b : Nat), .int .u8 (bt3 s0.b : Nat), .int .u8 (bt0 s0.c : Nat), .int .u8 (bt1 s0.c : Nat), .int .u8 (bt2 s0.c : Nat), .int .u8 (bt3 s0.c : Nat), .int .u8 (bt0 s0.d : Nat), .int .u8 (bt1 s0.d : Nat), .int .u8 (bt2 s0.d : Nat), .int .u8 (bt3 s0.d : Nat), .int .u64 0] 97)) w.heap.size g s0 0 := by
  have hr := rangeAt_new w #[.pointer (some ⟨g, 0, none⟩), .int .u8 (bt0 s0.a : Nat), .int .u8 (bt1 s0.a : Nat), .int .u8 (bt2 s0.a : Nat), .int .u8 (bt3 s0.a : Nat), .int .u8 (bt0 s0.b : Nat), .int .u8 (bt1 s0.b : Nat), .int .u8 (bt2 s0.b : Nat), .int .u8 (bt3 s0.b : Nat), .int .u8 (bt0 s0.c : Nat), .int .u8 (bt1 s0.c : Nat), .int .u8 (bt2 s0.c : Nat), .int .u8 (bt3 s0.c : Nat), .int .u8 (bt0 s0.d : Nat), .int .u8 (bt1 s0.d : Nat), .int .u8 (bt2 s0.d : Nat), .int .u8 (bt3 s0.d : Nat), .int .u64 0] 97
  refine ⟨hr 0 _ rfl, fun j v hv => ?_, hr 17 _ rfl, there_new w _ 97 18 (Nat.le_refl _), by simp, hs, by decide⟩
  have h16 : j < 16 := (List.getElem?_eq_some_iff.1 hv).1
  have hv' : (#[.pointer (some ⟨g, 0, none⟩), .int .u8 (bt0 s0.a : Nat), .int .u8 (bt1 s0.a : Nat), .int .u8 (bt2 s0.a : Nat), .int .u8 (bt3 s0.a : Nat), .int .u8 (bt0 s0.b : Nat), .int .u8 (bt1 s0.b : Nat), .int .u8 (bt2 s0.b : Nat), .int .u8 (bt3 s0.b : Nat), .int .u8 (bt0 s0.c : Nat), .int .u8 (bt1 s0.c : Nat), .int .u8 (bt2 s0.c : Nat), .int .u8 (bt3 s0.c : Nat), .int .u8 (bt0 s0.d : Nat), .int .u8 (bt1 s0.d : Nat), .int .u8 (bt2 s0.d : Nat), .int .u8 (bt3 s0.d : Nat), .int .u64 0]).toList[j + 1]? = some v := by
    show ([.int .u8 (bt0 s0.a : Nat), .int .u8 (bt1 s0.a : Nat), .int .u8 (bt2 s0.a : Nat), .int .u8 (bt3 s0.a : Nat), .int .u8 (bt0 s0.b : Nat), .int .u8 (bt1 s0.b : Nat), .int .u8 (bt2 s0.b : Nat), .int .u8 (bt3 s0.b : Nat), .int .u8 (bt0 s0.c : Nat), .int .u8 (bt1 s0.c : Nat), .int .u8 (bt2 s0.c : Nat), .int .u8 (bt3 s0.c : Nat), .int .u8 (bt0 s0.d : Nat), .int .u8 (bt1 s0.d : Nat), .int .u8 (bt2 s0.d : Nat), .int .u8 (bt3 s0.d : Nat)] ++ [Value.int .u64 0])[j]? = some v
    rw [List.getElem?_append_left h16]
    exact hv
  have := hr (j + 1) v hv'
  rw [show 0 + (j + 1) = 1 + j by omega] at this
  exact this
set_option maxHeartbeats 1600000 in
set_option maxRecDepth 100000 in
theorem stream_ok (g nr : Nat) (K : Nat → Nat) (s0 : W4) (w : World) (h : KeyAt w g nr K) (hs : s0.ok) : Calls Tryd.prog 28 #[.pointer (some ⟨g, 0, none⟩), s0.blk] w fun e w' => ∃ t, e = .returned (.tuple #[.pointer (some ⟨t, 0, none⟩), .int .i64 0]) ∧ w.heap.size ≤ t ∧ StreamAt w' t g s0 0 ∧ KeyAt w' g nr K ∧ Touch w w' g 4 1 := by
  have HG : Hid (g < w.heap.size) := h.ciph.here
  have HS : Hid s0.ok := hs
  have HK : Hid (KeyAt w g nr K) := h
  have HK1 : Hid (KeyAt (w.alloc (.cells #[.int .u8 (bt0 s0.a : Nat), .int .u8 (bt1 s0.a : Nat), .int .u8 (bt2 s0.a : Nat), .int .u8 (bt3 s0.a : Nat), .int .u8 (bt0 s0.b : Nat), .int .u8 (bt1 s0.b : Nat), .int .u8 (bt2 s0.b : Nat), .int .u8 (bt3 s0.b : Nat), .int .u8 (bt0 s0.c : Nat), .int .u8 (bt1 s0.c : Nat), .int .u8 (bt2 s0.c : Nat), .int .u8 (bt3 s0.c : Nat), .int .u8 (bt0 s0.d : Nat), .int .u8 (bt1 s0.d : Nat), .int .u8 (bt2 s0.d : Nat), .int .u8 (bt3 s0.d : Nat)] 42)) g nr K) := h.below ((Below.refl _ w).alloc (Nat.le_refl _) _) h.ciph.here
  have HH : Hid (Calls Tryd.prog 39 #[.pointer (some ⟨g, 0, none⟩)] (w.alloc (.cells #[.int .u8 (bt0 s0.a : Nat), .int .u8 (bt1 s0.a : Nat), .int .u8 (bt2 s0.a : Nat), .int .u8 (bt3 s0.a : Nat), .int .u8 (bt0 s0.b : Nat), .int .u8 (bt1 s0.b : Nat), .int .u8 (bt2 s0.b : Nat), .int .u8 (bt3 s0.b : Nat), .int .u8 (bt0 s0.c : Nat), .int .u8 (bt1 s0.c : Nat), .int .u8 (bt2 s0.c : Nat), .int .u8 (bt3 s0.c : Nat), .int .u8 (bt0 s0.d : Nat), .int .u8 (bt1 s0.d : Nat), .int .u8 (bt2 s0.d : Nat), .int .u8 (bt3 s0.d : Nat)] 42)) fun e w' => e = .returned (.int .i64 0) ∧ w' = (w.alloc (.cells #[.int .u8 (bt0 s0.a : Nat), .int .u8 (bt1 s0.a : Nat), .int .u8 (bt2 s0.a : Nat), .int .u8 (bt3 s0.a : Nat), .int .u8 (bt0 s0.b : Nat), .int .u8 (bt1 s0.b : Nat), .int .u8 (bt2 s0.b : Nat), .int .u8 (bt3 s0.b : Nat), .int .u8 (bt0 s0.c : Nat), .int .u8 (bt1 s0.c : Nat), .int .u8 (bt2 s0.c : Nat), .int .u8 (bt3 s0.c : Nat), .int .u8 (bt0 s0.d : Nat), .int .u8 (bt1 s0.d : Nat), .int .u8 (bt2 s0.d : Nat), .int .u8 (bt3 s0.d : Nat)] 42)).setCell ⟨g, 4, none⟩ (.int .i32 1)) := hold_ok g nr K _ HK1.out
  have HT0 : Hid (Touch w (w.alloc (.cells #[.int .u8 (bt0 s0.a : Nat), .int .u8 (bt1 s0.a : Nat), .int .u8 (bt2 s0.a : Nat), .int .u8 (bt3 s0.a : Nat), .int .u8 (bt0 s0.b : Nat), .int .u8 (bt1 s0.b : Nat), .int .u8 (bt2 s0.b : Nat), .int .u8 (bt3 s0.b : Nat), .int .u8 (bt0 s0.c : Nat), .int .u8 (bt1 s0.c : Nat), .int .u8 (bt2 s0.c : Nat), .int .u8 (bt3 s0.c : Nat), .int .u8 (bt0 s0.d : Nat), .int .u8 (bt1 s0.d : Nat), .int .u8 (bt2 s0.d : Nat), .int .u8 (bt3 s0.d : Nat)] 42)) g 4 1) := (Touch.refl w g 4 1).alloc _ h.ciph.here
  have HR0 : Hid ((w.alloc (.cells #[.int .u8 (bt0 s0.a : Nat), .int .u8 (bt1 s0.a : Nat), .int .u8 (bt2 s0.a : Nat), .int .u8 (bt3 s0.a : Nat), .int .u8 (bt0 s0.b : Nat), .int .u8 (bt1 s0.b : Nat), .int .u8 (bt2 s0.b : Nat), .int .u8 (bt3 s0.b : Nat), .int .u8 (bt0 s0.c : Nat), .int .u8 (bt1 s0.c : Nat), .int .u8 (bt2 s0.c : Nat), .int .u8 (bt3 s0.c : Nat), .int .u8 (bt0 s0.d : Nat), .int .u8 (bt1 s0.d : Nat), .int .u8 (bt2 s0.d : Nat), .int .u8 (bt3 s0.d : Nat)] 42)).rangeAt w.heap.size 0 [.int .u8 (bt0 s0.a : Nat), .int .u8 (bt1 s0.a : Nat), .int .u8 (bt2 s0.a : Nat), .int .u8 (bt3 s0.a : Nat), .int .u8 (bt0 s0.b : Nat), .int .u8 (bt1 s0.b : Nat), .int .u8 (bt2 s0.b : Nat), .int .u8 (bt3 s0.b : Nat), .int .u8 (bt0 s0.c : Nat), .int .u8 (bt1 s0.c : Nat), .int .u8 (bt2 s0.c : Nat), .int .u8 (bt3 s0.c : Nat), .int .u8 (bt0 s0.d : Nat), .int .u8 (bt1 s0.d : Nat), .int .u8 (bt2 s0.d : Nat), .int .u8 (bt3 s0.d : Nat)]) := rangeAt_new w #[.int .u8 (bt0 s0.a : Nat), .int .u8 (bt1 s0.a : Nat), .int .u8 (bt2 s0.a : Nat), .int .u8 (bt3 s0.a : Nat), .int .u8 (bt0 s0.b : Nat), .int .u8 (bt1 s0.b : Nat), .int .u8 (bt2 s0.b : Nat), .int .u8 (bt3 s0.b : Nat), .int .u8 (bt0 s0.c : Nat), .int .u8 (bt1 s0.c : Nat), .int .u8 (bt2 s0.c : Nat), .int .u8 (bt3 s0.c : Nat), .int .u8 (bt0 s0.d : Nat), .int .u8 (bt1 s0.d : Nat), .int .u8 (bt2 s0.d : Nat), .int .u8 (bt3 s0.d : Nat)] 42
  have HSZ : Hid ((w.alloc (.cells #[.int .u8 (bt0 s0.a : Nat), .int .u8 (bt1 s0.a : Nat), .int .u8 (bt2 s0.a : Nat), .int .u8 (bt3 s0.a : Nat), .int .u8 (bt0 s0.b : Nat), .int .u8 (bt1 s0.b : Nat), .int .u8 (bt2 s0.b : Nat), .int .u8 (bt3 s0.b : Nat), .int .u8 (bt0 s0.c : Nat), .int .u8 (bt1 s0.c : Nat), .int .u8 (bt2 s0.c : Nat), .int .u8 (bt3 s0.c : Nat), .int .u8 (bt0 s0.d : Nat), .int .u8 (bt1 s0.d : Nat), .int .u8 (bt2 s0.d : Nat), .int .u8 (bt3 s0.d : Nat)] 42)).heap.size = w.heap.size + 1) := by show _ = _; simp
  clear h hs
  show Calls Tryd.prog 28 #[.pointer (some ⟨g, 0, none⟩), .agg #[.int .u8 (bt0 s0.a : Nat), .int .u8 (bt1 s0.a : Nat), .int .u8 (bt2 s0.a : Nat), .int .u8 (bt3 s0.a : Nat), .int .u8 (bt0 s0.b : Nat), .int .u8 (bt1 s0.b : Nat), .int .u8 (bt2 s0.b : Nat), .int .u8 (bt3 s0.b : Nat), .int .u8 (bt0 s0.c : Nat), .int .u8 (bt1 s0.c : Nat), .int .u8 (bt2 s0.c : Nat), .int .u8 (bt3 s0.c : Nat), .int .u8 (bt0 s0.d : Nat), .int .u8 (bt1 s0.d : Nat), .int .u8 (bt2 s0.d : Nat), .int .u8 (bt3 s0.d : Nat)]] w _
  go_enter_defers Tryd.func28, Tryd.ntmps28
  go_wp2_with (first | (go_at_call 39; refine HH.out.mono ?_))
  rintro e1 w1 ⟨rfl, hw1⟩
  have H1 : Hid (Ciph w1 g 6 nr K ∧ Touch (w.alloc (.cells #[.int .u8 (bt0 s0.a : Nat), .int .u8 (bt1 s0.a : Nat), .int .u8 (bt2 s0.a : Nat), .int .u8 (bt3 s0.a : Nat), .int .u8 (bt0 s0.b : Nat), .int .u8 (bt1 s0.b : Nat), .int .u8 (bt2 s0.b : Nat), .int .u8 (bt3 s0.b : Nat), .int .u8 (bt0 s0.c : Nat), .int .u8 (bt1 s0.c : Nat), .int .u8 (bt2 s0.c : Nat), .int .u8 (bt3 s0.c : Nat), .int .u8 (bt0 s0.d : Nat), .int .u8 (bt1 s0.d : Nat), .int .u8 (bt2 s0.d : Nat), .int .u8 (bt3 s0.d : Nat)] 42)) w1 g 4 1 ∧ w1.cell? ⟨g, 4, none⟩ = some (.int .i32 1)) := held HK1.out hw1
  have HR1 : Hid (w1.rangeAt w.heap.size 0 [.int .u8 (bt0 s0.a : Nat), .int .u8 (bt1 s0.a : Nat), .int .u8 (bt2 s0.a : Nat), .int .u8 (bt3 s0.a : Nat), .int .u8 (bt0 s0.b : Nat), .int .u8 (bt1 s0.b : Nat), .int .u8 (bt2 s0.b : Nat), .int .u8 (bt3 s0.b : Nat), .int .u8 (bt0 s0.c : Nat), .int .u8 (bt1 s0.c : Nat), .int .u8 (bt2 s0.c : Nat), .int .u8 (bt3 s0.c : Nat), .int .u8 (bt0 s0.d : Nat), .int .u8 (bt1 s0.d : Nat), .int .u8 (bt2 s0.d : Nat), .int .u8 (bt3 s0.d : Nat)]) := fun j v hv => by
    have hz := HSZ.out
    have hgw := HG.out
    rw [H1.out.2.1.far (p := ⟨w.heap.size, 0 + j, none⟩) (show w.heap.size < _ by omega) (show w.heap.size ≠ g by omega)]
    exact HR0.out j v hv
  clear hw1 HH
  go_wp2_with (first
    | (refine wpList_load_mid (by rfl) 42 (.tmp 3) (by rfl) w.heap.size 0 (by rfl) [.int .u8 (bt0 s0.a : Nat), .int .u8 (bt1 s0.a : Nat), .int .u8 (bt2 s0.a : Nat), .int .u8 (bt3 s0.a : Nat), .int .u8 (bt0 s0.b : Nat), .int .u8 (bt1 s0.b : Nat), .int .u8 (bt2 s0.b : Nat), .int .u8 (bt3 s0.b : Nat), .int .u8 (bt0 s0.c : Nat), .int .u8 (bt1 s0.c : Nat), .int .u8 (bt2 s0.c : Nat), .int .u8 (bt3 s0.c : Nat), .int .u8 (bt0 s0.d : Nat), .int .u8 (bt1 s0.d : Nat), .int .u8 (bt2 s0.d : Nat), .int .u8 (bt3 s0.d : Nat)] _ HR1.out Tryd.underlying42 rfl size42 ?_)
    | fail)
  have HT1 : Hid (Touch w (w1.alloc (.cells #[.pointer (some ⟨g, 0, none⟩), .int .u8 (bt0 s0.a : Nat), .int .u8 (bt1 s0.a : Nat), .int .u8 (bt2 s0.a : Nat), .int .u8 (bt3 s0.a : Nat), .int .u8 (bt0 s0.b : Nat), .int .u8 (bt1 s0.b : Nat), .int .u8 (bt2 s0.b : Nat), .int .u8 (bt3 s0.b : Nat), .int .u8 (bt0 s0.c : Nat), .int .u8 (bt1 s0.c : Nat), .int .u8 (bt2 s0.c : Nat), .int .u8 (bt3 s0.c : Nat), .int .u8 (bt0 s0.d : Nat), .int .u8 (bt1 s0.d : Nat), .int .u8 (bt2 s0.d : Nat), .int .u8 (bt3 s0.d : Nat), .int .u64 0] 97)) g 4 1) := (HT0.out.trans H1.out.2.1).alloc _ HG.out
  have HC1 : Hid ((w1.alloc (.cells #[.pointer (some ⟨g, 0, none⟩), .int .u8 (bt0 s0.a : Nat), .int .u8 (bt1 s0.a : Nat), .int .u8 (bt2 s0.a : Nat), .int .u8 (bt3 s0.a : Nat), .int .u8 (bt0 s0.b : Nat), .int .u8 (bt1 s0.b : Nat), .int .u8 (bt2 s0.b : Nat), .int .u8 (bt3 s0.b : Nat), .int .u8 (bt0 s0.c : Nat), .int .u8 (bt1 s0.c : Nat), .int .u8 (bt2 s0.c : Nat), .int .u8 (bt3 s0.c : Nat), .int .u8 (bt0 s0.d : Nat), .int .u8 (bt1 s0.d : Nat), .int .u8 (bt2 s0.d : Nat), .int .u8 (bt3 s0.d : Nat), .int .u64 0] 97)).cell? ⟨g, 4, none⟩ = some (.int .i32 1)) := by
    have hb : Below w1.heap.size w1 (w1.alloc (.cells #[.pointer (some ⟨g, 0, none⟩), .int .u8 (bt0 s0.a : Nat), .int .u8 (bt1 s0.a : Nat), .int .u8 (bt2 s0.a : Nat), .int .u8 (bt3 s0.a : Nat), .int .u8 (bt0 s0.b : Nat), .int .u8 (bt1 s0.b : Nat), .int .u8 (bt2 s0.b : Nat), .int .u8 (bt3 s0.b : Nat), .int .u8 (bt0 s0.c : Nat), .int .u8 (bt1 s0.c : Nat), .int .u8 (bt2 s0.c : Nat), .int .u8 (bt3 s0.c : Nat), .int .u8 (bt0 s0.d : Nat), .int .u8 (bt1 s0.d : Nat), .int .u8 (bt2 s0.d : Nat), .int .u8 (bt3 s0.d : Nat), .int .u64 0] 97)) := (Below.refl _ w1).alloc (Nat.le_refl _) _
    exact (hb.cell H1.out.1.here).trans H1.out.2.2
  have HS1 : Hid (StreamAt (w1.alloc (.cells #[.pointer (some ⟨g, 0, none⟩), .int .u8 (bt0 s0.a : Nat), .int .u8 (bt1 s0.a : Nat), .int .u8 (bt2 s0.a : Nat), .int .u8 (bt3 s0.a : Nat), .int .u8 (bt0 s0.b : Nat), .int .u8 (bt1 s0.b : Nat), .int .u8 (bt2 s0.b : Nat), .int .u8 (bt3 s0.b : Nat), .int .u8 (bt0 s0.c : Nat), .int .u8 (bt1 s0.c : Nat), .int .u8 (bt2 s0.c : Nat), .int .u8 (bt3 s0.c : Nat), .int .u8 (bt0 s0.d : Nat), .int .u8 (bt1 s0.d : Nat), .int .u8 (bt2 s0.d : Nat), .int .u8 (bt3 s0.d : Nat), .int .u64 0] 97)) w1.heap.size g s0 0) := stream_alloc w1 g s0 HS.out
  refine leaves_cons (f := 40) (args := #[.pointer (some ⟨g, 0, none⟩)]) (by simp) (by simp [go_sem]) ?_
  refine (unlocked HK.out HT1.out HC1.out).mono ?_
  rintro e5 u5 w5 ⟨rfl, rfl, hk5, ht5, hw5⟩
  have hg1 := H1.out.1.here
  refine ⟨_, results_tmp2 rfl _ _ _, w1.heap.size, rfl, ?_, ?_, hk5, ht5⟩
  · have := (HT0.out.trans H1.out.2.1).size; exact this
  · rw [hw5]
    have hb : Touch (w1.alloc (.cells #[.pointer (some ⟨g, 0, none⟩), .int .u8 (bt0 s0.a : Nat), .int .u8 (bt1 s0.a : Nat), .int .u8 (bt2 s0.a : Nat), .int .u8 (bt3 s0.a : Nat), .int .u8 (bt0 s0.b : Nat), .int .u8 (bt1 s0.b : Nat), .int .u8 (bt2 s0.b : Nat), .int .u8 (bt3 s0.b : Nat), .int .u8 (bt0 s0.c : Nat), .int .u8 (bt1 s0.c : Nat), .int .u8 (bt2 s0.c : Nat), .int .u8 (bt3 s0.c : Nat), .int .u8 (bt0 s0.d : Nat), .int .u8 (bt1 s0.d : Nat), .int .u8 (bt2 s0.d : Nat), .int .u8 (bt3 s0.d : Nat), .int .u64 0] 97)) ((w1.alloc (.cells #[.pointer (some ⟨g, 0, none⟩), .int .u8 (bt0 s0.a : Nat), .int .u8 (bt1 s0.a : Nat), .int .u8 (bt2 s0.a : Nat), .int .u8 (bt3 s0.a : Nat), .int .u8 (bt0 s0.b : Nat), .int .u8 (bt1 s0.b : Nat), .int .u8 (bt2 s0.b : Nat), .int .u8 (bt3 s0.b : Nat), .int .u8 (bt0 s0.c : Nat), .int .u8 (bt1 s0.c : Nat), .int .u8 (bt2 s0.c : Nat), .int .u8 (bt3 s0.c : Nat), .int .u8 (bt0 s0.d : Nat), .int .u8 (bt1 s0.d : Nat), .int .u8 (bt2 s0.d : Nat), .int .u8 (bt3 s0.d : Nat), .int .u64 0] 97)).setCells g 4 [.int .i32 0]) g 4 1 := (Touch.refl _ g 4 1).setCells 4 _ (by omega) (by simp)
    have hs := HS1.out
    have hlt : w1.heap.size < (w1.alloc (.cells #[.pointer (some ⟨g, 0, none⟩), .int .u8 (bt0 s0.a : Nat), .int .u8 (bt1 s0.a : Nat), .int .u8 (bt2 s0.a : Nat), .int .u8 (bt3 s0.a : Nat), .int .u8 (bt0 s0.b : Nat), .int .u8 (bt1 s0.b : Nat), .int .u8 (bt2 s0.b : Nat), .int .u8 (bt3 s0.b : Nat), .int .u8 (bt0 s0.c : Nat), .int .u8 (bt1 s0.c : Nat), .int .u8 (bt2 s0.c : Nat), .int .u8 (bt3 s0.c : Nat), .int .u8 (bt0 s0.d : Nat), .int .u8 (bt1 s0.d : Nat), .int .u8 (bt2 s0.d : Nat), .int .u8 (bt3 s0.d : Nat), .int .u64 0] 97)).heap.size := hs.here
    refine ⟨(hb.far (p := ⟨w1.heap.size, 0, none⟩) hlt (show w1.heap.size ≠ g by omega)).trans hs.key, fun j v hv => (hb.far (p := ⟨w1.heap.size, 1 + j, none⟩) hlt (show w1.heap.size ≠ g by omega)).trans (hs.start j v hv), (hb.far (p := ⟨w1.heap.size, 17, none⟩) hlt (show w1.heap.size ≠ g by omega)).trans hs.pos, fun j hj => ?_, Nat.lt_of_lt_of_le hlt hb.size, hs.ok, hs.most⟩
    rw [hb.far (p := ⟨w1.heap.size, 0 + j, none⟩) hlt (show w1.heap.size ≠ g by omega), hb.farFrozen (p := ⟨w1.heap.size, 0 + j, none⟩) hlt (show w1.heap.size ≠ g by omega)]
    exact hs.room j hj
end Go.Proofs.YtgmfiljjogdccaaDoor
namespace Go.Proofs.YtgmfiljjogdccaaDoor
open Go.RowKit Go.RwLone
set_option linter.unusedVariables false
theorem at_ok (t g n : Nat) (s0 : W4) (w : World) (h : StreamAt w t g s0 n) : Calls Tryd.prog 33 #[.pointer (some ⟨t, 0, none⟩)] w fun e w' => e = .returned (.int .u64 (n : Nat)) ∧ w' = w := by
  have c := h.pos
  clear h
  go_enter Tryd.func33, Tryd.ntmps33
  go_wp2
  go_ret
  exact ⟨rfl, rfl⟩
theorem StreamAt.touch {w w' : World} {t g n g' o m : Nat} {s0 : W4} (h : StreamAt w t g s0 n) (ht : Touch w w' g' o m) (hne : t ≠ g') : StreamAt w' t g s0 n :=
  ⟨(ht.far (p := ⟨t, 0, none⟩) h.here hne).trans h.key, fun j v hv => (ht.far (p := ⟨t, 1 + j, none⟩) h.here hne).trans (h.start j v hv), (ht.far (p := ⟨t, 17, none⟩) h.here hne).trans h.pos, fun j hj => by
    rw [ht.far (p := ⟨t, 0 + j, none⟩) h.here hne, ht.farFrozen (p := ⟨t, 0 + j, none⟩) h.here hne]; exact h.room j hj, Nat.lt_of_lt_of_le h.here ht.size, h.ok, h.most⟩
theorem StreamAt.move {w : World} {t g n : Nat} {s0 : W4} (h : StreamAt w t g s0 n) (m : Nat) (hm : m ≤ 1099511627776) : StreamAt (w.setCell ⟨t, 17, none⟩ (.int .u64 (m : Nat))) t g s0 m := by
  have ht : Touch w (w.setCell ⟨t, 17, none⟩ (.int .u64 (m : Nat))) t 17 1 := (Touch.refl w t 17 1).setCell 17 _ (by omega) (by omega)
  refine ⟨(ht.cell 0 (by omega)).trans h.key, fun j v hv => ?_, ?_, ht.there _ _ h.room, Nat.lt_of_lt_of_le h.here ht.size, h.ok, hm⟩
  · have h16 : j < 16 := (List.getElem?_eq_some_iff.1 hv).1
    exact (ht.cell (1 + j) (by omega)).trans (h.start j v hv)
  · have := (h.room 17 (by decide)).1
    exact World.cell?_setCell_same' _ _ _ (by simpa using this)
/-- Another cell of another block. -/
theorem KeyAt.far {w w' : World} {g nr t o m : Nat} {K : Nat → Nat} (h : KeyAt w g nr K) (ht : Touch w w' t o m) (hne : g ≠ t) : KeyAt w' g nr K := by
  have hg := h.ciph.here
  have e : ∀ j : Nat, w'.cell? ⟨g, j, none⟩ = w.cell? ⟨g, j, none⟩ := fun j => ht.far (p := ⟨g, j, none⟩) hg hne
  refine ⟨⟨(e _).trans h.ciph.rounds, fun i hi => (e _).trans (h.ciph.words i hi), h.ciph.small, ⟨fun b hb => (e _).trans (h.ciph.tab.s b hb), fun b hb => (e _).trans (h.ciph.tab.u b hb), fun b hb => (e _).trans (h.ciph.tab.m b hb), fun b hb => (e _).trans (h.ciph.tab.n b hb)⟩, Nat.lt_of_lt_of_le hg ht.size, h.ciph.some, h.ciph.most⟩, (e _).trans h.count, fun j hj => ?_⟩
  rw [e, ht.farFrozen (p := ⟨g, 0 + j, none⟩) hg hne]
  exact h.room j hj
/-- Two blocks touched, one behind the other. -/
structure Touch2 (w w' : World) (g t : Nat) : Prop where
  os : w'.os = w.os
  tape : w'.tape = w.tape
  output : w'.output = w.output
  size : w.heap.size ≤ w'.heap.size
  block : ∀ k, k < w.heap.size → k ≠ g → k ≠ t → w'.heap[k]? = w.heap[k]?
theorem Touch.left {w w' : World} {g o n : Nat} (h : Touch w w' g o n) (t : Nat) : Touch2 w w' g t := ⟨h.os, h.tape, h.output, h.size, fun k hk hg _ => h.block k hk hg⟩
theorem Touch.right {w w' : World} {t o n : Nat} (h : Touch w w' t o n) (g : Nat) : Touch2 w w' g t := ⟨h.os, h.tape, h.output, h.size, fun k hk _ ht => h.block k hk ht⟩
theorem Touch2.trans {a b c : World} {g t : Nat} (h : Touch2 a b g t) (k : Touch2 b c g t) : Touch2 a c g t :=
  ⟨k.os.trans h.os, k.tape.trans h.tape, k.output.trans h.output, Nat.le_trans h.size k.size, fun i hi hg ht => (k.block i (Nat.lt_of_lt_of_le hi h.size) hg ht).trans (h.block i hi hg ht)⟩
theorem Below.two {w w' : World} (h : Below w.heap.size w w') (g t : Nat) : Touch2 w w' g t := ⟨h.os, h.tape, h.output, h.size, fun k hk _ _ => h.block k hk⟩
theorem Touch2.toBelow {w w' : World} {g t B : Nat} (h : Touch2 w w' g t) (hg : B ≤ g) (ht : B ≤ t) (hB : B ≤ w.heap.size) : Below B w w' := ⟨h.os, h.tape, h.output, h.size, fun k hk => h.block k (by omega) (by omega) (by omega)⟩
/-- The key is let go, whatever else was written. -/
theorem unlock3 {w3 : World} {g nr : Nat} {K : Nat → Nat} (hc : Ciph w3 g 6 nr K) (hcnt : w3.cell? ⟨g, 4, none⟩ = some (.int .i32 1)) (hroom : w3.there g 0 1091) :
    CallsD Tryd.prog 40 #[.pointer (some ⟨g, 0, none⟩)] .returning w3 fun e u' w' => u' = .returning ∧ e = .returned (.tuple #[]) ∧ KeyAt w' g nr K ∧ Touch w3 w' g 4 1 := by
  obtain ⟨x0, c0⟩ := cell_of_there hroom 0 (by decide)
  obtain ⟨x2, c2⟩ := cell_of_there hroom 2 (by decide)
  have hz := (hroom 4 (by decide)).2
  refine (runlock_deferred rwRLib g 0 1 x0 x2 .returning w3 c0 c2 hcnt hz (by decide +kernel)).mono ?_
  rintro e u' w' ⟨rfl, rfl, hw⟩
  rw [show wrap32 (1 + -1) = 0 by decide +kernel] at hw
  have hw' : w' = w3.setCells g 4 [.int .i32 0] := hw
  have ht' : Touch w3 w' g 4 1 := by rw [hw']; exact (Touch.refl _ g 4 1).setCells 4 _ (by omega) (by simp)
  have hc' : w'.cell? ⟨g, 4, none⟩ = some (.int .i32 0) := by
    rw [hw]
    exact World.cell?_setCell_same' _ _ _ (by rw [show (0 + 4) = 4 from rfl, hcnt]; rfl)
  refine ⟨rfl, rfl, ⟨⟨(ht'.cell 6 (by omega)).trans hc.rounds, fun i hi => (ht'.cell (6 + 1 + i) (by omega)).trans (hc.words i hi), hc.small, ⟨fun b hb => (ht'.cell _ (by omega)).trans (hc.tab.s b hb), fun b hb => (ht'.cell _ (by omega)).trans (hc.tab.u b hb), fun b hb => (ht'.cell _ (by omega)).trans (hc.tab.m b hb), fun b hb => (ht'.cell _ (by omega)).trans (hc.tab.n b hb)⟩, Nat.lt_of_lt_of_le hc.here ht'.size, hc.some, hc.most⟩, hc', ht'.there _ _ hroom⟩, ht'⟩
theorem Ciph.far {w w' : World} {g q nr t o m : Nat} {K : Nat → Nat} (h : Ciph w g q nr K) (ht : Touch w w' t o m) (hne : g ≠ t) : Ciph w' g q nr K := by
  have e : ∀ j : Nat, w'.cell? ⟨g, j, none⟩ = w.cell? ⟨g, j, none⟩ := fun j => ht.far (p := ⟨g, j, none⟩) h.here hne
  exact ⟨(e _).trans h.rounds, fun i hi => (e _).trans (h.words i hi), h.small, ⟨fun b hb => (e _).trans (h.tab.s b hb), fun b hb => (e _).trans (h.tab.u b hb), fun b hb => (e _).trans (h.tab.m b hb), fun b hb => (e _).trans (h.tab.n b hb)⟩, Nat.lt_of_lt_of_le h.here ht.size, h.some, h.most⟩
theorem there_far {w w' : World} {g a n t o m : Nat} (h : w.there g a n) (hg : g < w.heap.size) (ht : Touch w w' t o m) (hne : g ≠ t) : w'.there g a n := fun j hj => by
  rw [ht.far (p := ⟨g, a + j, none⟩) hg hne, ht.farFrozen (p := ⟨g, a + j, none⟩) hg hne]; exact h j hj
set_option maxHeartbeats 1600000 in
set_option maxRecDepth 100000 in
theorem skip_ok (t g n m nr : Nat) (K : Nat → Nat) (s0 : W4) (w : World) (hk : KeyAt w g nr K) (hs : StreamAt w t g s0 n) (hne : t ≠ g) (hm : n + m ≤ 1099511627776) :
    Calls Tryd.prog 32 #[.pointer (some ⟨t, 0, none⟩), .int .u64 (m : Nat)] w fun e w' => e = .returned (.int .i64 0) ∧ KeyAt w' g nr K ∧ StreamAt w' t g s0 (n + m) ∧ Touch2 w w' g t := by
  have HK : Hid (KeyAt w g nr K) := hk
  have HS : Hid (StreamAt w t g s0 n) := hs
  have HNE : Hid (t ≠ g) := hne
  have HH : Hid (Calls Tryd.prog 39 #[.pointer (some ⟨g, 0, none⟩)] w fun e w' => e = .returned (.int .i64 0) ∧ w' = w.setCell ⟨g, 4, none⟩ (.int .i32 1)) := hold_ok g nr K w hk
  have ck := hs.key
  have hn40 := hs.most
  clear hk hs hne
  go_enter_defers Tryd.func32, Tryd.ntmps32
  go_wp2_with (first | (go_at_call 39; refine HH.out.mono ?_))
  rintro e1 w1 ⟨rfl, hw1⟩
  have H1 : Hid (Ciph w1 g 6 nr K ∧ Touch w w1 g 4 1 ∧ w1.cell? ⟨g, 4, none⟩ = some (.int .i32 1)) := held HK.out hw1
  have HS1 : Hid (StreamAt w1 t g s0 n) := HS.out.touch H1.out.2.1 HNE.out
  clear hw1 HH ck
  have ck : w1.cell? ⟨t, 0, none⟩ = some (.pointer (some ⟨g, 0, none⟩)) := HS1.out.key
  have cp : w1.cell? ⟨t, 17, none⟩ = some (.int .u64 (n : Nat)) := HS1.out.pos
  have cz : w1.frozen? ⟨t, 17, none⟩ = false := by have := (HS1.out.room 17 (by decide)).2; simpa using this
  have KL : Hid (Calls Tryd.prog 47 #[.pointer (some ⟨t, 0, none⟩)] w1 fun e w' => e = .returned (.int .u64 (1099511627776 - n : Nat)) ∧ w' = w1) := left_ok t g n s0 w1 HS1.out
  obtain ⟨lf, HLF⟩ : ∃ x, Hid (x = 1099511627776 - n) := ⟨_, rfl⟩
  rw [← HLF.out] at KL
  have hle : ((m : Nat) : Int) ≤ (lf : Nat) := by have := HLF.out; omega
  go_wp2_with (first | (go_at_call 47; refine KL.out.mono ?_; rintro e2 w2 ⟨rfl, hw2⟩; obtain rfl := hw2.symm))
  rw [show ((n : Int) + (m : Int)) = ((n + m : Nat) : Int) by omega]
  have HT3 : Hid (Touch w1 (w1.setCell ⟨t, 17, none⟩ (.int .u64 (n + m : Nat))) t 17 1) := (Touch.refl w1 t 17 1).setCell 17 _ (by omega) (by omega)
  have HS3 : Hid (StreamAt (w1.setCell ⟨t, 17, none⟩ (.int .u64 (n + m : Nat))) t g s0 (n + m)) := HS1.out.move (n + m) hm
  generalize w1.setCell ⟨t, 17, none⟩ (.int .u64 (n + m : Nat)) = w3 at HT3 HS3 ⊢
  have hgt : g ≠ t := fun e => HNE.out e.symm
  have hg1 := H1.out.1.here
  refine leaves_cons (f := 40) (args := #[.pointer (some ⟨g, 0, none⟩)]) (by simp) (by simp [go_sem]) ?_
  refine (unlock3 (H1.out.1.far HT3.out hgt) ((HT3.out.far (p := ⟨g, 4, none⟩) hg1 hgt).trans H1.out.2.2) (there_far (H1.out.2.1.there _ _ HK.out.room) hg1 HT3.out hgt)).mono ?_
  rintro e5 u5 w5 ⟨rfl, rfl, hk5, ht5⟩
  exact ⟨_, results_tmp rfl _ _ _, rfl, hk5, HS3.out.touch ht5 HNE.out, ((H1.out.2.1.left t).trans (HT3.out.right g)).trans (ht5.left t)⟩
end Go.Proofs.YtgmfiljjogdccaaDoor
