import Derived.Test.YtffejkfkkciaaaaEsc
import Derived.Test.YtffejkfkkciaaaaTill
namespace Go.Proofs.Ytffejkfkkciaaaa
open Go.RowKit
set_option linter.unusedVariables false
set_option linter.unusedSimpArgs false
/-- The sum of the first i of a row. -/
def sI (l : List F) (i j : Nat) : F := sm i (fun q => fm (l.getD q 0) (P (X l.length q) j))
theorem sI_next (l : List F) (i j : Nat) : sI l (i + 1) j = fa (sI l i j) (fm (l.getD i 0) (P (X l.length i) j)) := rfl
theorem range_getD (l : List F) : (List.range l.length).map (fun i => l.getD i 0) = l := by
  apply List.ext_getElem
  · simp
  · intro i h1 h2
    simp [List.getD_eq_getElem?_getD, List.getElem?_eq_getElem h2]
theorem sI_all (l : List F) (j : Nat) : sI l l.length j = sumG l j := by
  have h := pv_row j l.length (fun i => l.getD i 0)
  rw [range_getD] at h
  exact h.symm
theorem X_pow (n i j : Nat) : P (X n i) j = Em (j * (n - 1 - i) % 255) := by
  unfold X
  rw [P_Em, Nat.mul_comm]
  exact Fin.ext (show pwT (j * (n - 1 - i) % 255) = pwT (j * (n - 1 - i) % 255 % 255) by rw [Nat.mod_mod])
/-- What the four cells hold: j of them one further. -/
def Cs (l : List F) (i j : Nat) (cu : List Value) : Prop := cu = fc ((List.range 4).map fun q => if q < j then sI l (i + 1) q else sI l i q)
theorem Cs.at {l : List F} {i j : Nat} {cu : List Value} (h : Cs l i j cu) (hj : j < 4) : cu[j]? = some (.int .u8 ((sI l i j).1 : Nat)) := by
  rw [h, fc_at _ j (by simpa using hj)]
  simp [List.getD_eq_getElem?_getD, List.getElem?_map, List.getElem?_range hj]
theorem Cs.next {l : List F} {i j : Nat} {cu : List Value} (h : Cs l i j cu) (hj : j < 4) : Cs l i (j + 1) (cu.set j (.int .u8 ((sI l (i + 1) j).1 : Nat))) := by
  unfold Cs
  apply List.ext_getElem?
  intro q
  by_cases hq : q < 4
  · rw [fc_at _ q (by simpa using hq)]
    by_cases e : q = j
    · subst e
      rw [List.getElem?_set_self (by rw [h, fc_len]; simpa using hq)]
      simp [List.getD_eq_getElem?_getD, List.getElem?_map, List.getElem?_range hq]
    · rw [List.getElem?_set_ne (by omega), h, fc_at _ q (by simpa using hq)]
      simp only [List.getD_eq_getElem?_getD, List.getElem?_map, List.getElem?_range hq, Option.map_some, Option.getD_some]
      by_cases hlt : q < j
      · rw [if_pos hlt, if_pos (by omega)]
      · rw [if_neg hlt, if_neg (by omega)]
  · rw [List.getElem?_eq_none (by rw [List.length_set, h, fc_len]; simp; omega), List.getElem?_eq_none (by rw [fc_len]; simp; omega)]
theorem Cs.done {l : List F} {i : Nat} {cu : List Value} (h : Cs l i 4 cu) : Cs l (i + 1) 0 cu := by
  rw [Cs, h]
  congr 1
theorem Cs.first (l : List F) : Cs l 0 0 (List.replicate 4 (.int .u8 0)) := rfl
theorem Cs.end {l : List F} {cu : List Value} (h : Cs l l.length 0 cu) : cu = fc (sumL l) := by
  rw [h]
  congr 1
  apply List.map_congr_left
  intro q _
  rw [if_neg (by omega)]
  exact sI_all l q
/-- What the two loops keep. -/
structure SuI (M p b off : Nat) (l : List F) (w : World) (i j : Nat) (u : World) : Prop where
  row : ∃ cu, Bx u (M + 1) 51 cu ∧ Cs l i j cu
  res : Bx u M 51 (List.replicate 4 (.int .u8 0))
  pw : ∀ q, q < 255 → u.cell? ⟨p, q, none⟩ = some (.int .u8 ((Em q).1 : Nat))
  rw : Rw u b off l
  bel : Below M w u
  hp : M + 1 < p
  hb : b < M
theorem SuI.step {M p b off : Nat} {l : List F} {w u : World} {i j : Nat} (h : SuI M p b off l w i j u) (hj : j < 4) : SuI M p b off l w i (j + 1) (u.setCell ⟨M + 1, j, none⟩ (.int .u8 ((sI l (i + 1) j).1 : Nat))) := by
  obtain ⟨cu, hcu, hC⟩ := h.row
  have hg := set_gb u (M + 1) j (.int .u8 ((sI l (i + 1) j).1 : Nat))
  have h1 := h.hp
  have h2 := h.hb
  refine ⟨⟨_, hcu.set j _, hC.next hj⟩, h.res.keep (hg.block M h.res.lt (fun e => by injection e with e; omega)), fun q hq => ?_, fun q hq => ?_, h.bel.setCell (by show M ≤ M + 1; omega) _, h1, h2⟩
  · rw [World.cell?_of_block (a := ⟨p, q, none⟩) (hg.block p (World.block_lt_of_cell? u _ (h.pw q hq)) (fun e => by injection e with e; omega))]; exact h.pw q hq
  · rw [World.cell?_of_block (a := ⟨b, off + q, none⟩) (hg.block b (World.block_lt_of_cell? u _ (h.rw q hq)) (fun e => by injection e with e; omega))]; exact h.rw q hq
theorem SuI.drew {M p b off : Nat} {l : List F} {w u : World} {i j : Nat} (h : SuI M p b off l w i j u) : SuI M p b off l w i j u.drew := ⟨h.row, h.res, h.pw, h.rw, h.bel.drew, h.hp, h.hb⟩
theorem SuI.turn {M p b off : Nat} {l : List F} {w u : World} {i : Nat} (h : SuI M p b off l w i 4 u) : SuI M p b off l w (i + 1) 0 u := by
  obtain ⟨cu, hcu, hC⟩ := h.row
  exact ⟨⟨cu, hcu, hC.done⟩, h.res, h.pw, h.rw, h.bel, h.hp, h.hb⟩
theorem su_num (n i j A B x : Nat) (hn : n ≤ 255) (hi : i < n) (hj : j < 4) (hA : n - 1 - i = A) (hB : j * A = B) (hx : B % 255 = x) : IntKind.i64.wrap ((n : Int) - 1) = ((n - 1 : Nat) : Int) ∧ IntKind.i64.wrap (((n - 1 : Nat) : Int) - (i : Int)) = (A : Int) ∧ IntKind.i64.wrap ((j : Int) * (A : Int)) = (B : Int) ∧ (B : Int).tmod 255 = (x : Int) ∧ (B : Int) % 255 = (x : Int) ∧ IntKind.i64.wrap (x : Int) = (x : Int) ∧ wrap64 (x : Int) = (x : Int) ∧ (0 : Int) ≤ (x : Int) ∧ (x : Int) < 255 := by
  have hb : j * A ≤ 3 * 255 := Nat.mul_le_mul (by omega) (by omega)
  have hBI : (j : Int) * (A : Int) = (B : Int) := by rw [← hB]; simp
  refine ⟨?_, ?_, ?_, ?_, by omega, ?_, ?_, by omega, by omega⟩
  · rw [IntKind.wrap_i64]; omega
  · rw [IntKind.wrap_i64]; omega
  · rw [hBI, IntKind.wrap_i64]; omega
  · rw [Int.tmod_eq_emod_of_nonneg (by omega)]; omega
  · rw [IntKind.wrap_i64]; omega
  · unfold wrap64; omega
theorem own_row255 {w : World} {B : Nat} {v : Value} (h : w.ownsRow B 5 1 v 255 (fc ((List.range 255).map Em))) : ∃ p pc, v = .slice (some ⟨p, 0, none⟩) 255 pc ∧ Hid ((∀ i, i < 255 → w.cell? ⟨p, i, none⟩ = some (.int .u8 ((Em i).1 : Nat))) ∧ B ≤ p) := by
  have h0 := h
  rcases h.2 with ⟨_, q⟩ | ⟨g, cap, cur, q, hB, _, _, _, _, _⟩
  · omega
  · refine ⟨g, cap, q, fun i hi => ?_, hB⟩
    have c := World.ownsRow.cells h0 (g := g) (by rw [q]; rfl) i (.int .u8 ((Em i).1 : Nat)) (by rw [fc_at _ i (by simpa using hi)]; simp [List.getD_eq_getElem?_getD, List.getElem?_map, List.getElem?_range hi])
    rw [Addr.add_lit, Nat.zero_add] at c
    exact c
set_option maxHeartbeats 1600000 in
set_option maxRecDepth 100000 in
/-- The document's sums. -/
theorem rsums_ok (b off c : Nat) (l : List F) (w : World) (hl : l.length ≤ 255) (h : Rw w b off l) (hb : b < w.heap.size) : Calls Try.prog 19 #[.slice (some ⟨b, off, none⟩) l.length c] w fun e w' => Hid (e = .returned (.agg (fc (sumL l)).toArray) ∧ Below w.heap.size w w') := by
  obtain ⟨M, HMM⟩ : ∃ M, Hid (w.heap.size = M) := ⟨_, rfl⟩
  obtain ⟨w1, hw1⟩ : ∃ w1, w1 = (w.alloc (.cells #[.int .u8 0, .int .u8 0, .int .u8 0, .int .u8 0] 51)).alloc (.cells #[.int .u8 0, .int .u8 0, .int .u8 0, .int .u8 0] 51) := ⟨_, rfl⟩
  obtain ⟨n, HN⟩ : ∃ n, Hid (l.length = n) := ⟨_, rfl⟩
  have HB1 : Hid (Bx w1 M 51 (List.replicate 4 (.int .u8 0)) ∧ Bx w1 (M + 1) 51 (List.replicate 4 (.int .u8 0)) ∧ Below M w w1 ∧ Rw w1 b off l ∧ b < M) := by
    have hbl : Below w.heap.size w w1 := by rw [hw1]; exact ((Below.refl _ _).alloc (Nat.le_refl _) _).alloc (by simp) _
    rw [← HMM.out]
    refine ⟨?_, ?_, hbl, h.below hbl, hb⟩
    · rw [hw1]; exact (Bx.new w 51 _).below ((Below.refl _ _).alloc (Nat.le_refl _) _)
    · rw [hw1]; have q := Bx.new (w.alloc (.cells #[.int .u8 0, .int .u8 0, .int .u8 0, .int .u8 0] 51)) 51 (List.replicate 4 (.int .u8 0)); simpa using q
  have HNN : Hid (n ≤ 255) := by rw [← HN.out]; exact hl
  have H20 : Hid (∀ u, Calls Try.prog 20 #[.int .i64 255] u fun e w' => Hid (∃ v, e = .returned v ∧ w'.ownsRow u.heap.size 5 1 v 255 (fc ((List.range 255).map Em)) ∧ Below u.heap.size u w')) := fun u => rpowers_ok 255 (by decide) u
  rw [HN.out]
  clear h hl hb
  go_enter Try.func19, Try.ntmps19
  go_upto_region 2 with fail
  rw [show (w.alloc (.cells _ 51)).alloc (.cells _ 51) = w1 from hw1.symm, HMM.out]
  clear hw1
  go_upto_region 3 with (first
    | (go_at_call 20; refine (H20.out _).mono ?_; intro e2 w2 hh; obtain ⟨pv0, rfl, h1, h2⟩ := hh.out; obtain ⟨p, pc, rfl, HP⟩ : ∃ p pc, pv0 = .slice (some ⟨p, 0, none⟩) 255 pc ∧ Hid ((∀ i, i < 255 → w2.cell? ⟨p, i, none⟩ = some (.int .u8 ((Em i).1 : Nat))) ∧ w1.heap.size ≤ p) := (own_row255 h1); have HB2 : Hid (Below w1.heap.size w1 w2) := h2; clear hh h1 h2 H20))
  obtain ⟨W1, HW1⟩ : ∃ q, Hid (w1.heap.size = q) := ⟨_, rfl⟩
  have HI0 : Hid (SuI M p b off l w 0 0 w2) := by
    obtain ⟨h1, h2, h3, h4, h5⟩ := HB1.out
    have hb2 := HB2.out
    exact ⟨⟨_, h2.below hb2, Cs.first l⟩, h1.below hb2, HP.out.1, h4.below hb2, h3.trans (hb2.mono (Nat.le_of_lt h1.lt)), Nat.lt_of_lt_of_le h2.lt HP.out.2, h5⟩
  clear HB1 HB2 HP HW1
  go_wp2
  go_loopw [6] (fun vi wr => ∃ i : Nat, i ≤ n ∧ vi = .int .i64 (i : Nat) ∧ Hid (SuI M p b off l w i 0 wr)) (fun vi _ => n - (intOf vi).toNat)
  case atStart => exact ⟨0, by omega, rfl, HI0.out⟩
  case round =>
    obtain ⟨i, hi, rfl, HI⟩ := hrel
    clear HI0
    by_cases hlt : i < n
    · have HLT : Hid (i < n) := hlt
      have g1 : (i : Int) < (n : Int) := by omega
      have HW1 : Hid (wrap64 ((i : Int) + 1) = ((i + 1 : Nat) : Int) ∧ IntKind.i64.wrap ((i : Int) + 1) = ((i + 1 : Nat) : Int)) := by
        have a := HNN.out
        have b := HLT.out
        refine ⟨?_, ?_⟩
        · unfold wrap64; omega
        · rw [IntKind.wrap_i64]; omega
      clear hi hlt
      go_wp2
      go_loopw [7] (fun vj wq => ∃ j : Nat, j ≤ 4 ∧ vj = .int .i64 (j : Nat) ∧ Hid (SuI M p b off l w i j wq)) (fun vj _ => 4 - (intOf vj).toNat)
      case atStart => exact ⟨0, by omega, rfl, HI.out⟩
      case round => as_aux_lemma =>
        obtain ⟨j, hj, rfl, HJ⟩ := hrel
        clear HI
        by_cases hlt : j < 4
        · have HJ4 : Hid (j < 4) := hlt
          have g2 : (j : Int) < 4 := by omega
          have g3 : (0 : Int) ≤ (j : Int) := by omega
          have g4 : (0 : Int) ≤ (i : Int) := by omega
          obtain ⟨A, HA⟩ : ∃ A, Hid (n - 1 - i = A) := ⟨_, rfl⟩
          obtain ⟨B, HB⟩ : ∃ B, Hid (j * A = B) := ⟨_, rfl⟩
          obtain ⟨x, HX⟩ : ∃ x, Hid (B % 255 = x) := ⟨_, rfl⟩
          obtain ⟨e1, e2, e3, e4, e5, e6, e7, e8, e9⟩ := su_num n i j A B x HNN.out HLT.out hlt HA.out HB.out HX.out
          obtain ⟨A0, HA0⟩ : ∃ a, Hid (n - 1 = a) := ⟨_, rfl⟩
          rw [HA0.out] at e1 e2
          obtain ⟨z, HZ⟩ : ∃ z, Hid (l.getD i 0 = z) := ⟨_, rfl⟩
          obtain ⟨s, HS⟩ : ∃ s, Hid (sI l i j = s) := ⟨_, rfl⟩
          obtain ⟨r, HRR⟩ : ∃ r, Hid (fm z (Em x) = r) := ⟨_, rfl⟩
          have HD := HJ.out.drew
          have c0 : wr.drew.cell? ⟨M + 1, j, none⟩ = some (.int .u8 (s.1 : Nat)) := by
            obtain ⟨cu, hcu, hC⟩ := HD.row
            rw [← HS.out]; exact hcu.cell j _ (hC.at hlt)
          have c1 : wr.drew.cell? ⟨b, off + i, none⟩ = some (.int .u8 (z.1 : Nat)) := by rw [← HZ.out]; exact HD.rw i (by rw [HN.out]; exact HLT.out)
          have c2 : wr.drew.cell? ⟨p, x, none⟩ = some (.int .u8 ((Em x).1 : Nat)) := HD.pw x (by omega)
          have f0 : wr.frozen? ⟨M + 1, j, none⟩ = false := by obtain ⟨cu, hcu, hC⟩ := HJ.out.row; exact hcu.frozen j
          have H1 : Hid (∀ u, Calls Try.prog 21 #[.int .u8 (z.1 : Nat), .int .u8 ((Em x).1 : Nat)] u fun e w' => e = .returned (.int .u8 (r.1 : Nat)) ∧ w' = u) := fun u => by rw [← HRR.out]; exact rtimesF z (Em x) u
          have HXR : Hid (bits .xor .u8 ((s.1 : Nat) : Int) ((r.1 : Nat) : Int) = (((sI l (i + 1) j).1 : Nat) : Int)) := by
            show _ = _
            rw [xorF, sI_next, HS.out, HZ.out, X_pow, HN.out, HA.out, HB.out, HX.out, HRR.out]
          have hxr := HXR.out
          have HNX : Hid (SuI M p b off l w i (j + 1) (wr.setCell ⟨M + 1, j, none⟩ (.int .u8 ((sI l (i + 1) j).1 : Nat))).drew) := (HJ.out.step hlt).drew
          obtain ⟨sn, HSN⟩ : ∃ s, Hid ((sI l (i + 1) j).1 = s) := ⟨_, rfl⟩
          rw [HSN.out] at hxr HNX
          generalize (Em x).1 = ex at c2 H1
          generalize s.1 = s1 at c0 hxr
          generalize z.1 = z1 at c1 H1
          generalize r.1 = r1 at H1 hxr
          have hS0 : wr.drew.cell? ⟨M + 1, j, none⟩ = some (.int .u8 (s1 : Nat)) ∧ wr.drew.cell? ⟨b, off + i, none⟩ = some (.int .u8 (z1 : Nat)) ∧ wr.drew.cell? ⟨p, x, none⟩ = some (.int .u8 (ex : Nat)) := ⟨c0, c1, c2⟩
          clear hj hlt HD c0 c1 c2 HXR
          go_upto_region 10 with fail
          refine wp_region_noPanic ?_
          refine wp_region_till (fun u => u.cell? ⟨M + 1, j, none⟩ = some (.int .u8 (s1 : Nat)) ∧ u.cell? ⟨b, off + i, none⟩ = some (.int .u8 (z1 : Nat)) ∧ u.cell? ⟨p, x, none⟩ = some (.int .u8 (ex : Nat))) 21 (by kernel_rfl) (by decide) (by decide +kernel) (by decide +kernel) (by decide +kernel) (fun inv => ?_)
          refine till_at 0 20 (.int .i64 (j : Nat)) inv rfl rfl (by decide) (by decide +kernel) (by decide +kernel) (fun _ _ _ h => h) hS0 (Or.inl ⟨by rfl, fun w' hS' => by obtain ⟨k1, k2, k3⟩ := hS'; go_simp⟩) (fun inv' => ?_)
          clear inv; have inv := inv'; clear inv'
          try simp only [List.setIfInBounds_toArray, List.set_cons_zero, List.set_cons_succ]
          refine till_at 1 21 (.int .i64 (j : Nat)) inv rfl rfl (by decide) (by decide +kernel) (by decide +kernel) (fun _ _ _ h => h) hS0 (Or.inl ⟨by rfl, fun w' hS' => by obtain ⟨k1, k2, k3⟩ := hS'; go_simp⟩) (fun inv' => ?_)
          clear inv; have inv := inv'; clear inv'
          try simp only [List.setIfInBounds_toArray, List.set_cons_zero, List.set_cons_succ]
          refine till_at 2 22 (.pointer (some ⟨M + 1, j, none⟩)) inv rfl rfl (by decide) (by decide +kernel) (by decide +kernel) (fun _ _ _ h => h) hS0 (Or.inl ⟨by rfl, fun w' hS' => by obtain ⟨k1, k2, k3⟩ := hS'; go_simp⟩) (fun inv' => ?_)
          clear inv; have inv := inv'; clear inv'
          try simp only [List.setIfInBounds_toArray, List.set_cons_zero, List.set_cons_succ]
          refine till_at 3 23 (.int .u8 (s1 : Nat)) inv rfl rfl (by decide) (by decide +kernel) (by decide +kernel) (fun _ _ _ h => h) hS0 (Or.inl ⟨by rfl, fun w' hS' => by obtain ⟨k1, k2, k3⟩ := hS'; go_simp⟩) (fun inv' => ?_)
          clear inv; have inv := inv'; clear inv'
          try simp only [List.setIfInBounds_toArray, List.set_cons_zero, List.set_cons_succ]
          refine till_at 4 24 (.slice (some ⟨b, off, none⟩) n c) inv rfl rfl (by decide) (by decide +kernel) (by decide +kernel) (fun _ _ _ h => h) hS0 (Or.inl ⟨by rfl, fun w' hS' => by obtain ⟨k1, k2, k3⟩ := hS'; go_simp⟩) (fun inv' => ?_)
          clear inv; have inv := inv'; clear inv'
          try simp only [List.setIfInBounds_toArray, List.set_cons_zero, List.set_cons_succ]
          refine till_at 5 25 (.int .i64 (i : Nat)) inv rfl rfl (by decide) (by decide +kernel) (by decide +kernel) (fun _ _ _ h => h) hS0 (Or.inl ⟨by rfl, fun w' hS' => by obtain ⟨k1, k2, k3⟩ := hS'; go_simp⟩) (fun inv' => ?_)
          clear inv; have inv := inv'; clear inv'
          try simp only [List.setIfInBounds_toArray, List.set_cons_zero, List.set_cons_succ]
          refine till_at 6 26 (.pointer (some ⟨b, off + i, none⟩)) inv rfl rfl (by decide) (by decide +kernel) (by decide +kernel) (fun _ _ _ h => h) hS0 (Or.inl ⟨by rfl, fun w' hS' => by obtain ⟨k1, k2, k3⟩ := hS'; go_simp⟩) (fun inv' => ?_)
          clear inv; have inv := inv'; clear inv'
          try simp only [List.setIfInBounds_toArray, List.set_cons_zero, List.set_cons_succ]
          refine till_at 7 27 (.int .u8 (z1 : Nat)) inv rfl rfl (by decide) (by decide +kernel) (by decide +kernel) (fun _ _ _ h => h) hS0 (Or.inl ⟨by rfl, fun w' hS' => by obtain ⟨k1, k2, k3⟩ := hS'; go_simp⟩) (fun inv' => ?_)
          clear inv; have inv := inv'; clear inv'
          try simp only [List.setIfInBounds_toArray, List.set_cons_zero, List.set_cons_succ]
          refine till_at 8 28 (.slice (some ⟨p, 0, none⟩) 255 pc) inv rfl rfl (by decide) (by decide +kernel) (by decide +kernel) (fun _ _ _ h => h) hS0 (Or.inl ⟨by rfl, fun w' hS' => by obtain ⟨k1, k2, k3⟩ := hS'; go_simp⟩) (fun inv' => ?_)
          clear inv; have inv := inv'; clear inv'
          try simp only [List.setIfInBounds_toArray, List.set_cons_zero, List.set_cons_succ]
          refine till_at 9 29 (.int .i64 (j : Nat)) inv rfl rfl (by decide) (by decide +kernel) (by decide +kernel) (fun _ _ _ h => h) hS0 (Or.inl ⟨by rfl, fun w' hS' => by obtain ⟨k1, k2, k3⟩ := hS'; go_simp⟩) (fun inv' => ?_)
          clear inv; have inv := inv'; clear inv'
          try simp only [List.setIfInBounds_toArray, List.set_cons_zero, List.set_cons_succ]
          refine till_at 10 30 (.int .i64 (n : Nat)) inv rfl rfl (by decide) (by decide +kernel) (by decide +kernel) (fun _ _ _ h => h) hS0 (Or.inl ⟨by rfl, fun w' hS' => by obtain ⟨k1, k2, k3⟩ := hS'; go_simp⟩) (fun inv' => ?_)
          clear inv; have inv := inv'; clear inv'
          try simp only [List.setIfInBounds_toArray, List.set_cons_zero, List.set_cons_succ]
          refine till_at 11 31 (.int .i64 (A0 : Nat)) inv rfl rfl (by decide) (by decide +kernel) (by decide +kernel) (fun _ _ _ h => h) hS0 (Or.inl ⟨by rfl, fun w' hS' => by obtain ⟨k1, k2, k3⟩ := hS'; go_simp⟩) (fun inv' => ?_)
          clear inv; have inv := inv'; clear inv'
          try simp only [List.setIfInBounds_toArray, List.set_cons_zero, List.set_cons_succ]
          refine till_at 12 32 (.int .i64 (i : Nat)) inv rfl rfl (by decide) (by decide +kernel) (by decide +kernel) (fun _ _ _ h => h) hS0 (Or.inl ⟨by rfl, fun w' hS' => by obtain ⟨k1, k2, k3⟩ := hS'; go_simp⟩) (fun inv' => ?_)
          clear inv; have inv := inv'; clear inv'
          try simp only [List.setIfInBounds_toArray, List.set_cons_zero, List.set_cons_succ]
          refine till_at 13 33 (.int .i64 (A : Nat)) inv rfl rfl (by decide) (by decide +kernel) (by decide +kernel) (fun _ _ _ h => h) hS0 (Or.inl ⟨by rfl, fun w' hS' => by obtain ⟨k1, k2, k3⟩ := hS'; go_simp⟩) (fun inv' => ?_)
          clear inv; have inv := inv'; clear inv'
          try simp only [List.setIfInBounds_toArray, List.set_cons_zero, List.set_cons_succ]
          refine till_at 14 34 (.int .i64 (B : Nat)) inv rfl rfl (by decide) (by decide +kernel) (by decide +kernel) (fun _ _ _ h => h) hS0 (Or.inl ⟨by rfl, fun w' hS' => by obtain ⟨k1, k2, k3⟩ := hS'; go_simp⟩) (fun inv' => ?_)
          clear inv; have inv := inv'; clear inv'
          try simp only [List.setIfInBounds_toArray, List.set_cons_zero, List.set_cons_succ]
          refine till_at 15 35 (.int .i64 (x : Nat)) inv rfl rfl (by decide) (by decide +kernel) (by decide +kernel) (fun _ _ _ h => h) hS0 (Or.inl ⟨by rfl, fun w' hS' => by obtain ⟨k1, k2, k3⟩ := hS'; go_simp⟩) (fun inv' => ?_)
          clear inv; have inv := inv'; clear inv'
          try simp only [List.setIfInBounds_toArray, List.set_cons_zero, List.set_cons_succ]
          refine till_at 16 36 (.pointer (some ⟨p, x, none⟩)) inv rfl rfl (by decide) (by decide +kernel) (by decide +kernel) (fun _ _ _ h => h) hS0 (Or.inl ⟨by rfl, fun w' hS' => by obtain ⟨k1, k2, k3⟩ := hS'; go_simp⟩) (fun inv' => ?_)
          clear inv; have inv := inv'; clear inv'
          try simp only [List.setIfInBounds_toArray, List.set_cons_zero, List.set_cons_succ]
          refine till_at 17 37 (.int .u8 (ex : Nat)) inv rfl rfl (by decide) (by decide +kernel) (by decide +kernel) (fun _ _ _ h => h) hS0 (Or.inl ⟨by rfl, fun w' hS' => by obtain ⟨k1, k2, k3⟩ := hS'; go_simp⟩) (fun inv' => ?_)
          clear inv; have inv := inv'; clear inv'
          try simp only [List.setIfInBounds_toArray, List.set_cons_zero, List.set_cons_succ]
          refine till_head (i := 18) inv (by decide +kernel) (by decide) rfl (fun KK hK => ?_)
          go_simp
          refine (H1.out _).mono ?_
          rintro e5 w5 ⟨rfl, hw⟩
          obtain rfl := hw.symm
          clear hw
          go_wp2_with fail
          refine hK.out _ _ (hS0) (fun inv' => ?_)
          clear hK KK inv; have inv := inv'; clear inv'
          try simp only [List.setIfInBounds_toArray, List.set_cons_zero, List.set_cons_succ]
          refine till_at 19 39 (.int .u8 (sn : Nat)) inv rfl rfl (by decide) (by decide +kernel) (by decide +kernel) (fun _ _ _ h => h) hS0 (Or.inl ⟨by rfl, fun w' hS' => by obtain ⟨k1, k2, k3⟩ := hS'; go_simp⟩) (fun inv' => ?_)
          clear inv; have inv := inv'; clear inv'
          try simp only [List.setIfInBounds_toArray, List.set_cons_zero, List.set_cons_succ]
          refine till_at 20 40 (.pointer (some ⟨M + 1, j, none⟩)) inv rfl rfl (by decide) (by decide +kernel) (by decide +kernel) (fun _ _ _ h => h) hS0 (Or.inl ⟨by rfl, fun w' hS' => by obtain ⟨k1, k2, k3⟩ := hS'; go_simp⟩) (fun inv' => ?_)
          clear inv; have inv := inv'; clear inv'
          try simp only [List.setIfInBounds_toArray, List.set_cons_zero, List.set_cons_succ]
          refine till_tail (i := 21) (by decide +kernel) (by decide) rfl (fun KK hK => ?_)
          rw [if_pos (by rfl)]
          go_simp
          refine hK.out _ _ ?_
          clear hK KK
          try simp only [List.setIfInBounds_toArray, List.set_cons_zero, List.set_cons_succ]
          refine till_done (by decide +kernel) ?_ _
          refine NoPanic.normal ?_
          go_wp2
          exact ⟨⟨j + 1, HJ4.out, by first | rfl | simp, HNX⟩, by have := HJ4.out; simp [intOf]; omega⟩
        · obtain rfl : j = 4 := by omega
          have g2 : ¬ ((4 : Nat) : Int) < 4 := by decide
          obtain ⟨w1', w2'⟩ := HW1.out
          go_wp2
          refine ⟨⟨i + 1, HLT.out, by first | rfl | (simp only [w1', w2']) | (simp [w1', w2']), HJ.out.turn⟩, ?_⟩
          have := HLT.out
          simp only [w1', w2', intOf, Int.toNat_natCast]
          omega
    · obtain rfl : i = n := by omega
      have h1 : ¬ (i : Int) < (i : Int) := Int.lt_irrefl _
      have HC : Hid (Bx wr (M + 1) 51 (fc (sumL l)) ∧ Bx wr M 51 (List.replicate 4 (.int .u8 0)) ∧ Below M w wr) := by
        obtain ⟨cu, hcu, hC⟩ := HI.out.row
        rw [← HN.out] at hC
        rw [← hC.end]
        exact ⟨hcu, HI.out.res, HI.out.bel⟩
      have HLN : Hid ((fc (sumL l)).length = 4 ∧ ∀ v ∈ fc (sumL l), v.oneCell' = true) := ⟨by rw [fc_len]; rfl, fc_one _⟩
      have hi7 : (Try.prog.info? 51).map (·.size) = some (fc (sumL l)).length := by rw [HLN.out.1]; kernel_rfl
      obtain ⟨R, HR⟩ : ∃ R, Hid (fc (sumL l) = R) := ⟨_, rfl⟩
      rw [HR.out] at HC HLN hi7
      clear HI hi
      go_wp2_with (first
        | (refine wpList_load_mid (by rfl) 51 (.tmp 3) (by rfl) (M + 1) 0 (by rfl) R _ HC.out.1.range Try.underlying51 rfl hi7 ?_)
        | (refine wpList_store_bx (by rfl) 51 (.tmp 2) (.tmp 41) (by rfl) (List.replicate 4 (.int .u8 0)) R M (by rfl) (by rfl) HC.out.2.1 (by rw [HLN.out.1]; rfl) hi7 HLN.out.2 ?_; intro u9 hb9 hg9))
      refine ret_array (b := M) R rfl rfl hb9.range Try.underlying51 rfl hi7 ⟨by rw [HR.out], ?_⟩
      have hf : Below M w u9 := HC.out.2.2.trans (below_gb hg9 (by have := HC.out.2.1.lt; omega) (Nat.le_refl _))
      first | exact hf | (rw [HMM.out]; exact hf)
end Go.Proofs.Ytffejkfkkciaaaa
