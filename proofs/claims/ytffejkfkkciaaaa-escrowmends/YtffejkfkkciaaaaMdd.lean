import Derived.Test.YtffejkfkkciaaaaEsg
import Derived.Test.YtffejkfkkciaaaaCap
import Derived.WalkMore
namespace Go.Proofs.Ytffejkfkkciaaaa
open Go.RowKit
set_option linter.unusedVariables false
set_option linter.unusedSimpArgs false
set_option maxHeartbeats 1600000 in
set_option maxRecDepth 100000 in
theorem mended_cap (b off c : Nat) (l : List F) (w : World) (hl : l.length ≤ 255) (h1 : 1 ≤ l.length) (h : Rw w b off l) (hb : b < w.heap.size) : Calls Try.prog 25 #[.slice (some ⟨b, off, none⟩) l.length c] w fun e w' => Hid (∃ g c' m, e = .returned (.slice (some ⟨g, 0, none⟩) l.length c') ∧ (l.length ≤ c' ∧ c' ≤ 9223372036854775807) ∧ w.heap.size ≤ g ∧ Rx w' g m ∧ MR l m ∧ m.length = l.length ∧ Below w.heap.size w w') := by
  obtain ⟨M, HMM⟩ : ∃ M, Hid (w.heap.size = M) := ⟨_, rfl⟩
  obtain ⟨n, HN⟩ : ∃ n, Hid (l.length = n) := ⟨_, rfl⟩
  have hlr : Hid (l.length ≤ 255 ∧ 1 ≤ l.length) := ⟨hl, h1⟩
  have HR : Hid (Rw w b off l ∧ b < w.heap.size) := ⟨h, hb⟩
  have H39 : Hid (Calls Try.prog 39 #[.slice (some ⟨b, off, none⟩) n c] w fun e w' => Hid (∃ v, e = .returned v ∧ w'.ownsRow w.heap.size 5 1 v l.length (fc l) ∧ Below w.heap.size w w')) := by
    have p := clone_ok b off c l w (by omega) h
    rw [HN.out] at p ⊢
    exact p
  have H40 : Hid (∀ u, Below w.heap.size w u → Calls Try.prog 40 #[.slice (some ⟨b, off, none⟩) n c] u fun e w' => Hid (e = .returned (.agg (fc (sumL l)).toArray) ∧ Below u.heap.size u w')) := fun u hu => by
    have p := sumsOf_ok b off c l u (by omega) (h.below hu) (Nat.lt_of_lt_of_le hb hu.size)
    rw [HN.out] at p
    exact p
  have H41 : Hid (∀ u, Calls Try.prog 41 #[.int .i64 (n : Nat)] u fun e w' => Hid (∃ p, e = .returned (.slice (some ⟨p, 0, none⟩) n n) ∧ u.heap.size ≤ p ∧ Bx w' p 5 (fc ((List.range n).map Em)) ∧ Below u.heap.size u w')) := fun u => powers_ok n (by rw [← HN.out]; omega) u
  have H42 : Hid (∀ u p, Bx u p 5 (fc ((List.range n).map Em)) → Calls Try.prog 42 #[.slice (some ⟨p, 0, none⟩) n n] u fun e w' => Hid (e = .returned (.tuple #[]) ∧ Bx w' p 5 (fc (Wl n)) ∧ Below p u w')) := fun u p hu => by
    have q := reverse_ok p n ((List.range n).map Em) u (by rw [List.length_map, List.length_range, ← HN.out]; omega) hu
    rw [List.length_map, List.length_range, Wl_rev] at q
    exact q
  obtain ⟨L, HLL⟩ : ∃ L, Hid (fc (sumL l) = L) := ⟨_, rfl⟩
  rw [HLL.out] at H40
  have HLN : Hid (L.length = 4 ∧ ∀ v ∈ L, v.oneCell' = true) := by rw [← HLL.out]; exact ⟨by rw [fc_len]; rfl, fc_one _⟩
  have hi7 : (Try.prog.info? 77).map (·.size) = some L.length := by rw [HLN.out.1]; kernel_rfl
  rw [HN.out]
  clear h hb hl h1
  go_enter Try.func25, Try.ntmps25
  go_wp2
  go_step3
  go_wp2_with (first
    | (go_at_call 39; refine H39.out.mono ?_; intro e1 w1 hh; obtain ⟨v, rfl, q1, q2⟩ := hh.out; obtain ⟨g, c', rfl, HG⟩ := own_rx q1 hlr.out.2; have HCC : Hid (l.length ≤ c' ∧ c' ≤ 9223372036854775807) := own_cap q1 hlr.out.2; have HB1 : Hid (Below w.heap.size w w1) := q2; clear hh q1 q2 H39; rw [HN.out])
    | (go_at_call 40; refine (H40.out w1 HB1.out).mono ?_; intro e2 w2 hh; obtain ⟨rfl, q2⟩ := hh.out; have HB2 : Hid (Below w1.heap.size w1 w2) := q2; clear hh q2 H40)
    | (refine wpList_store_bx (by rfl) 77 (.tmp 4) (.tmp 15) (by rfl) (List.replicate 4 (.int .u8 0)) L w2.heap.size (by rfl) (by rfl) (Bx.new w2 77 _) (by rw [HLN.out.1]; rfl) hi7 HLN.out.2 ?_; intro w3 hb3 hg3; have HB3 : Hid (Bx w3 w2.heap.size 77 L ∧ (w2.alloc (.cells (List.replicate 4 (Value.int .u8 0)).toArray 77)).grownBy w3 (some w2.heap.size)) := ⟨hb3, hg3⟩; clear hb3 hg3)
    | (go_at_call 41; refine (H41.out _).mono ?_; intro e4 w4 hh; obtain ⟨p, rfl, q0, q1, q2⟩ := hh.out; have HB4 : Hid (w3.heap.size ≤ p ∧ Bx w4 p 5 (fc ((List.range n).map Em)) ∧ Below w3.heap.size w3 w4) := ⟨q0, q1, q2⟩; clear hh q0 q1 q2 H41)
    | (go_at_call 42; refine (H42.out w4 p HB4.out.2.1).mono ?_; intro e5 w5 hh; obtain ⟨rfl, q1, q2⟩ := hh.out; have HB5 : Hid (Bx w5 p 5 (fc (Wl n)) ∧ Below p w4 w5) := ⟨q1, q2⟩; clear hh q1 q2 H42))
  go_step3
  obtain ⟨S, HS⟩ : ∃ S, Hid (w2.heap.size = S) := ⟨_, rfl⟩
  have HI0 : Hid (Rx w5 g l ∧ Bx w5 S 77 L ∧ Bx w5 p 5 (fc (Wl n)) ∧ Below M w w5) := by
    obtain ⟨q1, q2⟩ := HG.out
    obtain ⟨a1, a2⟩ := HB3.out
    obtain ⟨b0, b1, b2⟩ := HB4.out
    obtain ⟨d1, d2⟩ := HB5.out
    have hg2 : g < w2.heap.size := Nat.lt_of_lt_of_le q1.lt HB2.out.size
    have hS3 := a1.lt
    have r2 := q1.below HB2.out
    have r3 : Rx (w2.alloc (.cells (List.replicate 4 (Value.int .u8 0)).toArray 77)) g l := r2.below ((Below.refl _ _).alloc (Nat.le_refl _) _)
    have r4 : Rx w3 g l := r3.keep (a2.block g r3.lt (fun e => by injection e with e; omega))
    have r5 : Rx w4 g l := r4.below b2
    have r6 : Rx w5 g l := r5.keep (d2.block g (by omega))
    have s4 : Bx w4 w2.heap.size 77 L := a1.below b2
    have s5 : Bx w5 w2.heap.size 77 L := s4.keep (d2.block _ (by omega))
    rw [← HS.out, ← HMM.out]
    have hM1 : w.heap.size ≤ w1.heap.size := HB1.out.size
    have hM2 : w1.heap.size ≤ w2.heap.size := HB2.out.size
    refine ⟨r6, s5, d1, ?_⟩
    have e1 : Below w.heap.size w w2 := HB1.out.trans (HB2.out.mono hM1)
    have e2 : Below w.heap.size w (w2.alloc (.cells (List.replicate 4 (Value.int .u8 0)).toArray 77)) := e1.alloc (by omega) _
    have e3 : Below w.heap.size w w3 := e2.trans (below_gb a2 (by simp; omega) (by omega))
    exact (e3.trans (b2.mono (by omega))).trans (d2.mono (by omega))
  have HNE : Hid (M ≤ g ∧ g < S ∧ S < p) := by
    have q := HG.out.2
    have hg2 : g < w2.heap.size := Nat.lt_of_lt_of_le HG.out.1.lt HB2.out.size
    have hS3 := HB3.out.1.lt
    have hp := HB4.out.1
    have hs := HS.out
    have hm := HMM.out
    exact ⟨by omega, by omega, by omega⟩
  rw [HS.out]
  clear HB1 HB2 HB3 HB4 HB5 HS HG
  have hnn : n ≤ 255 := by rw [← HN.out]; exact hlr.out.1
  have H43 : Hid (∀ u x y, Calls Try.prog 43 #[.int .u8 ((x : F).1 : Nat), .int .u8 ((y : F).1 : Nat), .int .u8 ((sumG l 0).1 : Nat), .int .u8 ((sumG l 1).1 : Nat)] u fun e w' => Hid (e = .returned (.agg (fc ((List.range 4).map (s2 x y (sumG l 0) (sumG l 1)))).toArray) ∧ Below u.heap.size u w')) := fun u x y => s2_ok x y _ _ u
  have H44 : Hid (∀ u x y, Calls Try.prog 44 #[.int .u8 ((x : F).1 : Nat), .int .u8 ((y : F).1 : Nat), .agg L.toArray] u fun e w' => Hid (e = .returned (.tuple #[.int .u8 ((wA x y (sumG l 0) (sumG l 1)).1 : Nat), .int .u8 ((fa (sumG l 0) (wA x y (sumG l 0) (sumG l 1))).1 : Nat)]) ∧ Below u.heap.size u w')) := fun u x y => by rw [← HLL.out]; exact wrong_ok x y (sumL l) rfl u
  go_wp2
  go_loopw [23] (fun vi wr => ∃ i : Nat, i ≤ n ∧ vi = .int .i64 (i : Nat) ∧ Hid ((∀ i' k', k' < i' → i' < i → ¬ two l i' k') ∧ Rx wr g l ∧ Bx wr S 77 L ∧ Bx wr p 5 (fc (Wl n)) ∧ Below M w wr)) (fun vi _ => n - (intOf vi).toNat)
  case atStart => exact ⟨0, by omega, rfl, fun _ _ _ h => absurd h (by omega), HI0.out⟩
  case round =>
    obtain ⟨i, hi, rfl, HI⟩ := hrel
    clear HI0
    by_cases hlt : i < n
    · have g1 : (i : Int) < (n : Int) := by omega
      have g0 : (0 : Int) ≤ (i : Int) := by omega
      have ci : wr.cell? ⟨p, i, none⟩ = some (.int .u8 ((X n i).1 : Nat)) := by
        rw [← Wl_at n i hlt]; exact HI.out.2.2.2.1.cell i _ (fc_at _ i (by rw [Wl_len]; exact hlt))
      have w1' : wrap64 ((i : Int) + 1) = ((i + 1 : Nat) : Int) ∧ IntKind.i64.wrap ((i : Int) + 1) = ((i + 1 : Nat) : Int) := by
        refine ⟨?_, ?_⟩
        · unfold wrap64; omega
        · rw [IntKind.wrap_i64]; omega
      have HW1 : Hid (wrap64 ((i : Int) + 1) = ((i + 1 : Nat) : Int) ∧ IntKind.i64.wrap ((i : Int) + 1) = ((i + 1 : Nat) : Int)) := w1'
      clear w1'
      obtain ⟨x1, HX1⟩ : ∃ a, Hid ((X n i).1 = a) := ⟨_, rfl⟩
      rw [HX1.out] at ci
      have HLT : Hid (i < n) := hlt
      clear hi hlt
      go_wp2
      go_loopw [32] (fun vk wq => ∃ k : Nat, k ≤ i ∧ vk = .int .i64 (k : Nat) ∧ Hid ((∀ k', k' < k → ¬ two l i k') ∧ (∀ i' k', k' < i' → i' < i → ¬ two l i' k') ∧ Rx wq g l ∧ Bx wq S 77 L ∧ Bx wq p 5 (fc (Wl n)) ∧ Below M w wq)) (fun vk _ => i - (intOf vk).toNat)
      case atStart => exact ⟨0, by omega, rfl, fun _ h => absurd h (by omega), HI.out⟩
      case round =>
        obtain ⟨k, hk, rfl, HJ⟩ := hrel
        clear HI
        by_cases hlt : k < i
        · have HKI : Hid (k < i) := hlt
          have g2 : (k : Int) < (i : Int) := by omega
          have g3 : (0 : Int) ≤ (k : Int) := by omega
          have hkn : k < n := by have := HLT.out; omega
          have hin : i < n := HLT.out
          have wk1 : wrap64 ((k : Int) + 1) = ((k + 1 : Nat) : Int) ∧ IntKind.i64.wrap ((k : Int) + 1) = ((k + 1 : Nat) : Int) := by
            refine ⟨?_, ?_⟩
            · unfold wrap64; omega
            · rw [IntKind.wrap_i64]; omega
          have HWK : Hid (wrap64 ((k : Int) + 1) = ((k + 1 : Nat) : Int) ∧ IntKind.i64.wrap ((k : Int) + 1) = ((k + 1 : Nat) : Int)) := wk1
          clear wk1
          have ck : wr.cell? ⟨p, k, none⟩ = some (.int .u8 ((X n k).1 : Nat)) := by
            rw [← Wl_at n k hkn]; exact HJ.out.2.2.2.2.1.cell k _ (fc_at _ k (by rw [Wl_len]; exact hkn))
          have hr0 : wr.drew.rangeAt S 0 L := HJ.out.2.2.2.1.range
          have c0 : wr.drew.cell? ⟨S, 0, none⟩ = some (.int .u8 ((sumG l 0).1 : Nat)) := HJ.out.2.2.2.1.cell 0 _ (by rw [← HLL.out]; rfl)
          have c1 : wr.drew.cell? ⟨S, 1, none⟩ = some (.int .u8 ((sumG l 1).1 : Nat)) := HJ.out.2.2.2.1.cell 1 _ (by rw [← HLL.out]; rfl)
          obtain ⟨A, HAA⟩ : ∃ A, Hid (fc ((List.range 4).map (s2 (X n i) (X n k) (sumG l 0) (sumG l 1))) = A) := ⟨_, rfl⟩
          obtain ⟨d, HD⟩ : ∃ d : Bool, Hid ((d = true ↔ two l i k) ∧ ∀ u, (binOp .eql 77 (.agg A.toArray) (.agg L.toArray)).run Try.prog u = .ok (.bool d) u) := by
            refine ⟨decide ((List.range 4).map (s2 (X n i) (X n k) (sumG l 0) (sumG l 1)) = sumL l), ?_, fun u => ?_⟩
            · rw [decide_eq_true_iff, ← HN.out]; exact Iff.rfl
            · rw [← HAA.out, ← HLL.out]; exact eql4 77 Try.und77 _ _ (by simp) rfl u
          have hq := HD.out.2
          have H1 : Hid (∀ u, Below M w u → Calls Try.prog 43 #[.int .u8 ((X n i).1 : Nat), .int .u8 ((X n k).1 : Nat), .int .u8 ((sumG l 0).1 : Nat), .int .u8 ((sumG l 1).1 : Nat)] u fun e w' => Hid (e = .returned (.agg A.toArray) ∧ Below u.heap.size u w')) := fun u _ => by rw [← HAA.out]; exact H43.out u _ _
          have H2 : Hid (∀ u, Calls Try.prog 44 #[.int .u8 ((X n i).1 : Nat), .int .u8 ((X n k).1 : Nat), .agg L.toArray] u fun e w' => Hid (e = .returned (.tuple #[.int .u8 ((wrA l i k).1 : Nat), .int .u8 ((wrB l i k).1 : Nat)]) ∧ Below u.heap.size u w')) := fun u => by
            have q := H44.out u (X n i) (X n k)
            rw [← HN.out]
            rw [← HN.out] at q
            exact q
          rw [HX1.out] at H1 H2
          obtain ⟨y1, HY1⟩ : ∃ a, Hid ((X n k).1 = a) := ⟨_, rfl⟩
          rw [HY1.out] at ck H1 H2
          obtain ⟨f01, HF0⟩ : ∃ a, Hid ((sumG l 0).1 = a) := ⟨_, rfl⟩
          obtain ⟨f11, HF1⟩ : ∃ a, Hid ((sumG l 1).1 = a) := ⟨_, rfl⟩
          rw [HF0.out] at c0 H1
          rw [HF1.out] at c1 H1
          have hS0 : wr.drew.rangeAt S 0 L ∧ wr.drew.cell? ⟨S, 0, none⟩ = some (.int .u8 (f01 : Nat)) ∧ wr.drew.cell? ⟨S, 1, none⟩ = some (.int .u8 (f11 : Nat)) := ⟨hr0, c0, c1⟩
          clear hk hlt hr0 c0 c1 hkn hin
          go_upto_region 11 with fail
          refine wp_region_noPanic ?_
          refine wp_region_till (fun u => u.rangeAt S 0 L ∧ u.cell? ⟨S, 0, none⟩ = some (.int .u8 (f01 : Nat)) ∧ u.cell? ⟨S, 1, none⟩ = some (.int .u8 (f11 : Nat))) 8 (by kernel_rfl) (by decide) (by decide +kernel) (by decide +kernel) (by decide +kernel) (fun inv => ?_)
          refine till_at 0 37 (.int .u8 (x1 : Nat)) inv rfl rfl (by decide) (by decide +kernel) (by decide +kernel) (fun _ _ _ h => h) hS0 (Or.inl ⟨by rfl, fun w' hS' => by obtain ⟨k1, k2, k3⟩ := hS'; go_simp⟩) (fun inv' => ?_)
          clear inv; have inv := inv'; clear inv'
          try simp only [List.setIfInBounds_toArray, List.set_cons_zero, List.set_cons_succ]
          refine till_at 1 38 (.int .u8 (y1 : Nat)) inv rfl rfl (by decide) (by decide +kernel) (by decide +kernel) (fun _ _ _ h => h) hS0 (Or.inl ⟨by rfl, fun w' hS' => by obtain ⟨k1, k2, k3⟩ := hS'; go_simp⟩) (fun inv' => ?_)
          clear inv; have inv := inv'; clear inv'
          try simp only [List.setIfInBounds_toArray, List.set_cons_zero, List.set_cons_succ]
          refine till_at 2 39 (.pointer (some ⟨S, 0, none⟩)) inv rfl rfl (by decide) (by decide +kernel) (by decide +kernel) (fun _ _ _ h => h) hS0 (Or.inl ⟨by rfl, fun w' hS' => by obtain ⟨k1, k2, k3⟩ := hS'; go_simp⟩) (fun inv' => ?_)
          clear inv; have inv := inv'; clear inv'
          try simp only [List.setIfInBounds_toArray, List.set_cons_zero, List.set_cons_succ]
          refine till_at 3 40 (.int .u8 (f01 : Nat)) inv rfl rfl (by decide) (by decide +kernel) (by decide +kernel) (fun _ _ _ h => h) hS0 (Or.inl ⟨by rfl, fun w' hS' => by obtain ⟨k1, k2, k3⟩ := hS'; go_simp⟩) (fun inv' => ?_)
          clear inv; have inv := inv'; clear inv'
          try simp only [List.setIfInBounds_toArray, List.set_cons_zero, List.set_cons_succ]
          refine till_at 4 41 (.pointer (some ⟨S, 1, none⟩)) inv rfl rfl (by decide) (by decide +kernel) (by decide +kernel) (fun _ _ _ h => h) hS0 (Or.inl ⟨by rfl, fun w' hS' => by obtain ⟨k1, k2, k3⟩ := hS'; go_simp⟩) (fun inv' => ?_)
          clear inv; have inv := inv'; clear inv'
          try simp only [List.setIfInBounds_toArray, List.set_cons_zero, List.set_cons_succ]
          refine till_at 5 42 (.int .u8 (f11 : Nat)) inv rfl rfl (by decide) (by decide +kernel) (by decide +kernel) (fun _ _ _ h => h) hS0 (Or.inl ⟨by rfl, fun w' hS' => by obtain ⟨k1, k2, k3⟩ := hS'; go_simp⟩) (fun inv' => ?_)
          clear inv; have inv := inv'; clear inv'
          try simp only [List.setIfInBounds_toArray, List.set_cons_zero, List.set_cons_succ]
          refine till_at 7 44 (.agg L.toArray) inv rfl rfl (by decide) (by decide +kernel) (by decide +kernel) (fun _ _ _ h => h) hS0 (yieldsIf_load_mid (by rfl) 77 (.tmp 4) rfl S 0 rfl L _ (fun u hu => hu.1) Try.underlying77 rfl hi7) (fun inv' => ?_)
          clear inv; have inv := inv'; clear inv'
          try simp only [List.setIfInBounds_toArray, List.set_cons_zero, List.set_cons_succ]
          refine till_head (i := 6) inv (by decide +kernel) (by decide) rfl (fun KK hK => ?_)
          go_simp
          refine (H1.out _ HJ.out.2.2.2.2.2.drew).mono ?_
          intro e7 w7 hh
          obtain ⟨rfl, q7⟩ := hh.out
          have HB7 : Hid (Below wr.heap.size wr w7) := Below.trans (Below.refl _ _).drew q7
          have hS7 : w7.rangeAt S 0 L ∧ w7.cell? ⟨S, 0, none⟩ = some (.int .u8 (f01 : Nat)) ∧ w7.cell? ⟨S, 1, none⟩ = some (.int .u8 (f11 : Nat)) := ⟨(HJ.out.2.2.2.1.below HB7.out).range, (q7.cell (World.block_lt_of_cell? _ _ hS0.2.1)).trans hS0.2.1, (q7.cell (World.block_lt_of_cell? _ _ hS0.2.2)).trans hS0.2.2⟩
          clear hh q7
          go_wp2_with fail
          refine hK.out _ _ (hS7) (fun inv' => ?_)
          clear hK KK inv; have inv := inv'; clear inv'
          try simp only [List.setIfInBounds_toArray, List.set_cons_zero, List.set_cons_succ]
          refine till_tail (i := 8) (by decide +kernel) (by decide) rfl (fun KK hK => ?_)
          go_simp
          refine hK.out _ _ ?_
          clear hK KK
          try simp only [List.setIfInBounds_toArray, List.set_cons_zero, List.set_cons_succ]
          refine till_done (by decide +kernel) ?_ _
          refine NoPanic.normal ?_
          have hcs : w7.rangeAt S 0 L := hS7.1
          cases d with
          | false =>
            have hno : ¬ two l i k := fun e => by have := HD.out.1.2 e; cases this
            have HNX : Hid ((∀ k', k' < k + 1 → ¬ two l i k') ∧ (∀ i' k', k' < i' → i' < i → ¬ two l i' k') ∧ Rx w7 g l ∧ Bx w7 S 77 L ∧ Bx w7 p 5 (fc (Wl n)) ∧ Below M w w7) := by
              obtain ⟨q1, q2, q3, q4, q5, q6⟩ := HJ.out
              have hb := HB7.out
              refine ⟨fun k' hk' => ?_, q2, q3.below hb, q4.below hb, q5.below hb, q6.trans (hb.mono (Nat.le_trans (Nat.le_of_lt_succ (by have := q3.lt; have := HNE.out; omega)) (Nat.le_refl _)))⟩
              by_cases e : k' = k
              · rw [e]; exact hno
              · exact q1 k' (by omega)
            clear hS7 hS0
            go_wp2
            have e1 := HKI.out
            refine ⟨⟨k + 1, by omega, by first | rfl | (simp; done), HNX.out⟩, ?_⟩
            simp [intOf]
            omega
          | true =>
            have hyes : two l i k := HD.out.1.1 rfl
            obtain ⟨a, HA⟩ : ∃ a, Hid (wrA l i k = a) := ⟨_, rfl⟩
            obtain ⟨b', HB'⟩ : ∃ b', Hid (wrB l i k = b') := ⟨_, rfl⟩
            obtain ⟨li, HLI⟩ : ∃ a, Hid (l.getD i 0 = a) := ⟨_, rfl⟩
            obtain ⟨lk, HLK⟩ : ∃ a, Hid (l.getD k 0 = a) := ⟨_, rfl⟩
            obtain ⟨si, HSI⟩ : ∃ q, Hid (fa li a = q) := ⟨_, rfl⟩
            obtain ⟨sk, HSK⟩ : ∃ q, Hid (fa lk b' = q) := ⟨_, rfl⟩
            have hxa : bits .xor .u8 ((li.1 : Nat) : Int) ((a.1 : Nat) : Int) = ((si.1 : Nat) : Int) := by rw [xorF, HSI.out]
            have hxb : bits .xor .u8 ((lk.1 : Nat) : Int) ((b'.1 : Nat) : Int) = ((sk.1 : Nat) : Int) := by rw [xorF, HSK.out]
            rw [HA.out, HB'.out] at H2
            have HMRR : Hid (MR l ((l.set i si).set k sk)) := by
              refine Or.inl ⟨i, k, HKI.out, by rw [HN.out]; exact HLT.out, hyes, ?_⟩
              rw [HA.out, HB'.out, HLI.out, HLK.out, HSI.out, HSK.out]
            have HR7 : Hid (Rx w7 g l ∧ Below M w w7) := ⟨HJ.out.2.2.1.below HB7.out, HJ.out.2.2.2.2.2.trans (HB7.out.mono (by have := HJ.out.2.2.1.lt; have := HNE.out; omega))⟩
            have e0 := HLT.out
            have e1 := HKI.out
            have g4 : (i : Int) < (n : Int) := by omega
            have g5 : (k : Int) < (n : Int) := by omega
            have g6 : (0 : Int) ≤ (i : Int) := by omega
            clear hS7 hS0 hq
            go_wp2_with (first
              | (refine wpList_load_mid (by rfl) 77 (.tmp 4) (by rfl) S 0 (by rfl) L _ hcs Try.underlying77 rfl hi7 ?_)
              | (go_at_call 44; refine (H2.out _).mono ?_; intro e8 w8 hh; obtain ⟨rfl, q8⟩ := hh.out; have HB8 : Hid (Below w7.heap.size w7 w8) := q8; have c8 : w8.cell? ⟨g, i, none⟩ = some (.int .u8 (li.1 : Nat)) := by { rw [← HLI.out]; exact (HR7.out.1.below q8).cell i (by rw [HN.out]; exact e0) }; have f8 : w8.frozen? ⟨g, i, none⟩ = false := (HR7.out.1.below q8).frozen i; have c9 : (w8.setCell ⟨g, i, none⟩ (.int .u8 (si.1 : Nat))).cell? ⟨g, k, none⟩ = some (.int .u8 (lk.1 : Nat)) := by { have q := ((HR7.out.1.below q8).set i (by rw [HN.out]; exact e0) si).cell k (by rw [List.length_set, HN.out]; omega); rw [q, ← HLK.out, List.getD_eq_getElem?_getD, List.getElem?_set_ne (by omega), ← List.getD_eq_getElem?_getD] }; have f9 : (w8.setCell ⟨g, i, none⟩ (.int .u8 (si.1 : Nat))).frozen? ⟨g, k, none⟩ = false := ((HR7.out.1.below q8).set i (by rw [HN.out]; exact e0) si).frozen k; clear hh q8))
            try rw [Exit.noGoto_ret]
            go_ret
            rw [HMM.out]
            have hr8 := HR7.out.1.below HB8.out
            have hb8 : Below M w w8 := HR7.out.2.trans (HB8.out.mono (by have := HR7.out.1.lt; have := HNE.out; omega))
            refine ⟨g, c', (l.set i si).set k sk, rfl, by rw [← HN.out]; exact HCC.out, HNE.out.1, ?_, HMRR.out, by rw [List.length_set, List.length_set]; exact HN.out, ?_⟩
            · exact (hr8.set i (by rw [HN.out]; exact e0) si).set k (by rw [List.length_set, HN.out]; omega) sk
            · exact (hb8.setCell (by show M ≤ g; exact HNE.out.1) _).setCell (by show M ≤ g; exact HNE.out.1) _
        · obtain rfl : k = i := by omega
          have g2 : ¬ (k : Int) < (k : Int) := Int.lt_irrefl _
          have HNX : Hid ((∀ i' k', k' < i' → i' < k + 1 → ¬ two l i' k') ∧ Rx wr g l ∧ Bx wr S 77 L ∧ Bx wr p 5 (fc (Wl n)) ∧ Below M w wr) := by
            obtain ⟨q1, q2, q3, q4, q5, q6⟩ := HJ.out
            refine ⟨fun i' k' h1 h2 => ?_, q3, q4, q5, q6⟩
            by_cases e : i' = k
            · rw [e] at h1 ⊢; exact q1 k' h1
            · exact q2 i' k' h1 (by omega)
          go_wp2
          have e1 := HLT.out
          refine ⟨⟨k + 1, by omega, by first | rfl | (simp; done), HNX.out⟩, ?_⟩
          simp [intOf]
          omega
    · obtain rfl : i = n := by omega
      have g2 : ¬ (i : Int) < (i : Int) := Int.lt_irrefl _
      have HE : Hid (∃ g' c'' m, Ending.returned (.slice (some ⟨g, 0, none⟩) i c') = .returned (.slice (some ⟨g', 0, none⟩) i c'') ∧ (i ≤ c'' ∧ c'' ≤ 9223372036854775807) ∧ M ≤ g' ∧ Rx wr g' m ∧ MR l m ∧ m.length = i ∧ Below M w wr) := by
        obtain ⟨q1, q2, q3, q4, q5⟩ := HI.out
        exact ⟨g, c', l, rfl, by rw [← HN.out]; exact HCC.out, HNE.out.1, q2, Or.inr ⟨fun i' k' h1 h2 => q1 i' k' h1 (by rw [← HN.out]; exact h2), rfl⟩, HN.out, q5⟩
      go_wp2
      try rw [Exit.noGoto_ret]
      go_ret
      rw [HMM.out]
      exact HE.out
end Go.Proofs.Ytffejkfkkciaaaa
