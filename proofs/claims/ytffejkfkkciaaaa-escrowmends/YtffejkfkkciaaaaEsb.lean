import Derived.Test.YtffejkfkkciaaaaBxe
import Derived.Deep.DeepMust
import Derived.Deep.QuietTactic
import Derived.BigQuiet
namespace Go.Proofs.Ytffejkfkkciaaaa
open Go.RowKit
set_option linter.unusedVariables false
set_option linter.unusedSimpArgs false
/-- The first k bytes of a row of n are told. -/
def Cu (n k : Nat) (g : Nat → F) (cu : List Value) : Prop := cu.length = n ∧ (∀ i, i < k → cu[i]? = some (.int .u8 ((g i).1 : Nat))) ∧ ∀ i, i < n → ∃ x : Int, cu[i]? = some (.int .u8 x)
theorem Cu.next {n k : Nat} {g : Nat → F} {cu : List Value} (h : Cu n k g cu) (hk : k < n) : Cu n (k + 1) g (cu.set k (.int .u8 ((g k).1 : Nat))) := by
  obtain ⟨h1, h2, h3⟩ := h
  refine ⟨by simp [h1], fun i hi => ?_, fun i hi => ?_⟩
  · by_cases e : i = k
    · subst e; rw [List.getElem?_set_self (by omega)]
    · rw [List.getElem?_set_ne (by omega)]; exact h2 i (by omega)
  · by_cases e : i = k
    · subst e; exact ⟨_, by rw [List.getElem?_set_self (by omega)]⟩
    · obtain ⟨x, hx⟩ := h3 i hi
      exact ⟨x, by rw [List.getElem?_set_ne (by omega)]; exact hx⟩
theorem Cu.all {n : Nat} {g : Nat → F} {cu : List Value} (h : Cu n n g cu) : cu = fc ((List.range n).map g) := by
  apply List.ext_getElem?
  intro i
  by_cases hi : i < n
  · rw [h.2.1 i hi, fc_at _ i (by simpa using hi)]
    simp [List.getD_eq_getElem?_getD, List.getElem?_map, List.getElem?_range hi]
  · rw [List.getElem?_eq_none (by rw [h.1]; omega), List.getElem?_eq_none (by rw [fc_len]; simp; omega)]
theorem Cu.zero (n : Nat) (g : Nat → F) : Cu n 0 g (List.replicate n (.int .u8 0)) :=
  ⟨by simp, fun i hi => by omega, fun i hi => ⟨0, by rw [List.getElem?_replicate, if_pos hi]⟩⟩
set_option maxHeartbeats 800000 in
set_option maxRecDepth 100000 in
/-- powers. -/
theorem powers_ok (n : Nat) (hn : n ≤ 1000) (w : World) : Calls Try.prog 41 #[.int .i64 (n : Nat)] w fun e w' => Hid (∃ b, e = .returned (.slice (some ⟨b, 0, none⟩) n n) ∧ w.heap.size ≤ b ∧ Bx w' b 5 (fc ((List.range n).map Em)) ∧ Below w.heap.size w w') := by
  obtain ⟨i0, hi0, hz0, hz1, hz2⟩ := info_parts Try.infoB
  have HI0 : Hid (Try.prog.info? 5 = some i0 ∧ i0.zero = some (.int .u8 0) ∧ i0.size = 1 ∧ i0.bytes = 1) := ⟨hi0, hz0, hz1, hz2⟩
  have HMF : Hid (i0.bytes * n ≤ 281474976710656 ∧ n ≤ maxLen) := made_few i0.bytes n n 1 (by decide) HI0.out.2.2.2 (by omega)
  have q1 : wrap64 (n : Int) = (n : Int) := by unfold wrap64; omega
  have HN : Hid (n ≤ 1000) := hn
  clear hi0 hz0 hz1 hz2
  go_enter Try.func41, Try.ntmps41
  go_wp2_with (first
    | (at_make; go_must (refine wpList_make_full _ rfl _ _ 25 rfl w.heap.size 5 i0 (.int .u8 0) 1 Try.underlying25 HI0.out.1 HI0.out.2.1 HI0.out.2.2.1 .i64 .i64 (n : Nat) (n : Nat) n rfl rfl rfl rfl HMF.out.1 HMF.out.2 (Nat.le_refl _) ?_; intro w2 hown hgrow; have hlo : Below w.heap.size w w2 := ⟨hgrow.os, hgrow.tape, hgrow.output, hgrow.size, fun c hc => hgrow.block c hc (by simp)⟩; have HX2 : Hid ((∃ cu, Bx w2 w.heap.size 5 cu ∧ Cu n 0 Em cu) ∧ Below w.heap.size w w2) := ⟨⟨_, (own_full1 hown).1, by rw [show (Value.int .u8 0).cells = #[.int .u8 0] from rfl, Nat.mul_one, toList_madeCells_one]; exact Cu.zero n Em⟩, hlo⟩; clear hown hgrow hlo)))
  obtain ⟨b, HBB⟩ : ∃ b, Hid (w.heap.size = b) := ⟨_, rfl⟩
  rw [HBB.out] at HX2 ⊢
  go_loopw [4, 10] (fun vp vi wr => ∃ k : Nat, k ≤ n ∧ vi = .int .i64 (k : Nat) ∧ vp = .int .u8 ((Em k).1 : Nat) ∧ Hid ((∃ cu, Bx wr b 5 cu ∧ Cu n k Em cu) ∧ Below b w wr)) (fun _ vi _ => n - (intOf vi).toNat)
  case atStart => exact ⟨0, by omega, rfl, (by rw [Em_zero]; rfl), HX2.out⟩
  case round =>
    obtain ⟨k, hk, rfl, rfl, HI⟩ := hrel
    clear HX2
    by_cases hlt : k < n
    · obtain ⟨⟨cu, hcu, hC⟩, hbl⟩ := HI.out
      obtain ⟨x, hx⟩ := hC.2.2 k hlt
      have c0 : wr.cell? ⟨b, k, none⟩ = some (.int .u8 x) := hcu.cell k _ hx
      have f0 : wr.frozen? ⟨b, k, none⟩ = false := hcu.frozen k
      have g0 : (0 : Int) ≤ (k : Int) := by omega
      have g1 : (k : Int) < (n : Int) := by omega
      have H1 : Hid (∀ u, Calls Try.prog 53 #[.int .u8 ((Em k).1 : Nat), .int .u8 3] u fun e w' => e = .returned (.int .u8 ((Em (k + 1)).1 : Nat)) ∧ w' = u) := fun u => by
        have q := timesF (Em k) 3 u
        rw [← Em_one, Em_mul, Em_one] at q
        exact q
      have HN2 : Hid ((∃ cu, Bx (wr.setCell ⟨b, k, none⟩ (.int .u8 ((Em k).1 : Nat))) b 5 cu ∧ Cu n (k + 1) Em cu) ∧ Below b w (wr.setCell ⟨b, k, none⟩ (.int .u8 ((Em k).1 : Nat)))) := ⟨⟨_, hcu.set k _, hC.next hlt⟩, hbl.setCell (Nat.le_refl _) _⟩
      generalize (Em k).1 = ek at H1 HN2
      obtain ⟨ek1, HE1⟩ : ∃ e, Hid ((Em (k + 1)).1 = e) := ⟨_, rfl⟩
      rw [HE1.out] at H1
      have b0 : b ≤ wr.heap.size := Nat.le_of_lt hcu.lt
      clear hcu hC hbl HI
      go_wp2_with (first
        | (go_at_call 53; refine (H1.out _).mono ?_; rintro e1 w1 ⟨rfl, hw⟩; obtain rfl := hw.symm; clear hw))
      go_roundw
      case rel => exact ⟨k + 1, by omega, by go_num, by rw [HE1.out], HN2.out⟩
      case measure => simp [intOf]; omega
    · obtain rfl : k = n := by omega
      obtain ⟨⟨cu, hcu, hC⟩, hbl⟩ := HI.out
      have h1 : ¬ (k : Int) < (k : Int) := Int.lt_irrefl _
      have HC : Hid (Bx wr b 5 (fc ((List.range k).map Em)) ∧ Below b w wr) := by rw [← hC.all]; exact ⟨hcu, hbl⟩
      clear hcu hC hbl HI
      go_wp2
      go_ret
      exact ⟨b, rfl, by first | exact Nat.le_refl _ | (rw [HBB.out]; exact Nat.le_refl _), HC.out.1, by first | exact HC.out.2 | (rw [HBB.out]; exact HC.out.2)⟩
set_option maxHeartbeats 400000 in
theorem withC_ok (v : Value) (hv : ∃ a n c, v = .slice a n c) (w : World) : Calls Try.prog 52 #[v] w fun e w' => Hid (e = .returned (.func (.func 57) #[] #[.pointer (some ⟨w.heap.size, 0, none⟩)]) ∧ Bx w' w.heap.size 25 [v] ∧ Below w.heap.size w w') := by
  obtain ⟨a, n, c, rfl⟩ := hv
  go_enter Try.func52, Try.ntmps52
  go_wp2
  go_ret
  exact ⟨rfl, Bx.new w 25 [.slice a n c], (Below.refl _ _).alloc (Nat.le_refl _) _⟩
/-- The four sums of a row. -/
def sumG (l : List F) (j : Nat) : F := pv (Em j) l
def sumL (l : List F) : List F := (List.range 4).map (sumG l)
set_option maxHeartbeats 800000 in
set_option maxRecDepth 100000 in
/-- sumsOf. -/
theorem sumsOf_ok (b off c : Nat) (l : List F) (w : World) (hl : l.length ≤ 4000) (h : Rw w b off l) (hb : b < w.heap.size) : Calls Try.prog 40 #[.slice (some ⟨b, off, none⟩) l.length c] w fun e w' => Hid (e = .returned (.agg (fc (sumL l)).toArray) ∧ Below w.heap.size w w') := by
  obtain ⟨M, HMM⟩ : ∃ M, Hid (w.heap.size = M) := ⟨_, rfl⟩
  obtain ⟨w1, hw1⟩ : ∃ w1, w1 = (w.alloc (.cells #[.int .u8 0, .int .u8 0, .int .u8 0, .int .u8 0] 77)).alloc (.cells #[.int .u8 0, .int .u8 0, .int .u8 0, .int .u8 0] 77) := ⟨_, rfl⟩
  obtain ⟨n, HN⟩ : ∃ n, Hid (l.length = n) := ⟨_, rfl⟩
  have HB1 : Hid (Bx w1 M 77 (List.replicate 4 (.int .u8 0)) ∧ Bx w1 (M + 1) 77 (List.replicate 4 (.int .u8 0)) ∧ Below M w w1 ∧ Rw w1 b off l ∧ b < M) := by
    have hbl : Below w.heap.size w w1 := by rw [hw1]; exact ((Below.refl _ _).alloc (Nat.le_refl _) _).alloc (by simp) _
    rw [← HMM.out]
    refine ⟨?_, ?_, hbl, h.below hbl, hb⟩
    · rw [hw1]; exact (Bx.new w 77 _).below ((Below.refl _ _).alloc (Nat.le_refl _) _)
    · rw [hw1]; have q := Bx.new (w.alloc (.cells #[.int .u8 0, .int .u8 0, .int .u8 0, .int .u8 0] 77)) 77 (List.replicate 4 (.int .u8 0)); simpa using q
  have hn : n ≤ 4000 := by rw [← HN.out]; exact hl
  have H52 : Hid (∀ u, Calls Try.prog 52 #[.slice (some ⟨b, off, none⟩) n c] u fun e w' => Hid (e = .returned (.func (.func 57) #[] #[.pointer (some ⟨u.heap.size, 0, none⟩)]) ∧ Bx w' u.heap.size 25 [.slice (some ⟨b, off, none⟩) n c] ∧ Below u.heap.size u w')) := fun u => withC_ok _ ⟨_, _, _, rfl⟩ u
  have H41 : Hid (∀ u, Calls Try.prog 41 #[.int .i64 4] u fun e w' => Hid (∃ p, e = .returned (.slice (some ⟨p, 0, none⟩) 4 4) ∧ u.heap.size ≤ p ∧ Bx w' p 5 (fc ((List.range 4).map Em)) ∧ Below u.heap.size u w')) := fun u => powers_ok 4 (by decide) u
  rw [HN.out]
  clear h hl hb
  go_enter Try.func40, Try.ntmps40
  go_upto_region 2 with fail
  rw [show (w.alloc (.cells _ 77)).alloc (.cells _ 77) = w1 from hw1.symm, HMM.out]
  clear hw1
  go_wp2_with (first
    | (go_at_call 52; refine (H52.out _).mono ?_; intro e2 w2 hh; obtain ⟨rfl, h1, h2⟩ := hh.out; have HB2 : Hid (Bx w2 w1.heap.size 25 [.slice (some ⟨b, off, none⟩) n c] ∧ Below w1.heap.size w1 w2) := ⟨h1, h2⟩; clear hh h1 h2 H52)
    | (go_at_call 41; refine (H41.out _).mono ?_; intro e3 w3 hh; obtain ⟨p, rfl, h0, h1, h2⟩ := hh.out; have HB3 : Hid (Bx w3 p 5 (fc ((List.range 4).map Em)) ∧ Below w2.heap.size w2 w3 ∧ w2.heap.size ≤ p) := ⟨h1, h2, h0⟩; clear hh h0 h1 h2 H41))
  obtain ⟨Q, HQ⟩ : ∃ q, Hid (w1.heap.size = q) := ⟨_, rfl⟩
  rw [HQ.out] at HB2 ⊢
  have HI0 : Hid ((∃ cu, Bx w3 (M + 1) 77 cu ∧ Cu 4 0 (sumG l) cu) ∧ Bx w3 M 77 (List.replicate 4 (.int .u8 0)) ∧ Bx w3 Q 25 [.slice (some ⟨b, off, none⟩) n c] ∧ Bx w3 p 5 (fc ((List.range 4).map Em)) ∧ Rw w3 b off l ∧ Below M w w3) := by
    obtain ⟨h1, h2, h3, h4, h5⟩ := HB1.out
    obtain ⟨g1, g2⟩ := HB2.out
    obtain ⟨k1, k2, k3⟩ := HB3.out
    rw [← HQ.out] at g2
    have hs : M ≤ w1.heap.size := Nat.le_of_lt h1.lt
    have hb2 : Below w1.heap.size w1 w3 := g2.trans (k2.mono g2.size)
    exact ⟨⟨_, h2.below hb2, Cu.zero 4 _⟩, h1.below hb2, g1.below k2, k1, h4.below hb2, h3.trans (hb2.mono hs)⟩
  have HNE : Hid (M + 1 < Q ∧ Q < p ∧ b < M) := by
    have h2 := HB1.out.2.1.lt
    have g1 := HB2.out.1.lt
    have k3 := HB3.out.2.2
    have := HQ.out
    exact ⟨by omega, by omega, HB1.out.2.2.2.2⟩
  clear HB1 HB2 HB3
  go_loopw [11] (fun vi wr => ∃ k : Nat, k ≤ 4 ∧ vi = .int .i64 (k : Nat) ∧ Hid ((∃ cu, Bx wr (M + 1) 77 cu ∧ Cu 4 k (sumG l) cu) ∧ Bx wr M 77 (List.replicate 4 (.int .u8 0)) ∧ Bx wr Q 25 [.slice (some ⟨b, off, none⟩) n c] ∧ Bx wr p 5 (fc ((List.range 4).map Em)) ∧ Rw wr b off l ∧ Below M w wr)) (fun vi _ => 4 - (intOf vi).toNat)
  case atStart => exact ⟨0, by omega, rfl, HI0.out⟩
  case round =>
    obtain ⟨k, hk, rfl, HI⟩ := hrel
    clear HI0
    by_cases hlt : k < 4
    · obtain ⟨⟨cu, hcu, hC⟩, h1, h2, h3, h4, h5⟩ := HI.out
      obtain ⟨x, hx⟩ := hC.2.2 k hlt
      have c0 : wr.cell? ⟨M + 1, k, none⟩ = some (.int .u8 x) := hcu.cell k _ hx
      have f0 : wr.frozen? ⟨M + 1, k, none⟩ = false := hcu.frozen k
      have c1 : wr.cell? ⟨p, k, none⟩ = some (.int .u8 ((Em k).1 : Nat)) := h3.cell k _ (by rw [fc_at _ k (by simpa using hlt)]; simp [List.getD_eq_getElem?_getD, List.getElem?_map, List.getElem?_range hlt])
      have g0 : (0 : Int) ≤ (k : Int) := by omega
      have g1 : (k : Int) < 4 := by omega
      have H1 : Hid (Calls Try.prog 57 #[.int .u8 ((Em k).1 : Nat), .pointer (some ⟨Q, 0, none⟩)] wr fun e w' => e = .returned (.int .u8 ((sumG l k).1 : Nat)) ∧ w' = wr) := poly_ok (Em k) Q b off c l wr (by rw [HN.out]; exact h2.cell 0 _ rfl) (by rw [HN.out]; exact hn) h4
      have HN2 : Hid ((∃ cu, Bx (wr.setCell ⟨M + 1, k, none⟩ (.int .u8 ((sumG l k).1 : Nat))) (M + 1) 77 cu ∧ Cu 4 (k + 1) (sumG l) cu) ∧ Bx (wr.setCell ⟨M + 1, k, none⟩ (.int .u8 ((sumG l k).1 : Nat))) M 77 (List.replicate 4 (.int .u8 0)) ∧ Bx (wr.setCell ⟨M + 1, k, none⟩ (.int .u8 ((sumG l k).1 : Nat))) Q 25 [.slice (some ⟨b, off, none⟩) n c] ∧ Bx (wr.setCell ⟨M + 1, k, none⟩ (.int .u8 ((sumG l k).1 : Nat))) p 5 (fc ((List.range 4).map Em)) ∧ Rw (wr.setCell ⟨M + 1, k, none⟩ (.int .u8 ((sumG l k).1 : Nat))) b off l ∧ Below M w (wr.setCell ⟨M + 1, k, none⟩ (.int .u8 ((sumG l k).1 : Nat)))) := by
        have hg := set_gb wr (M + 1) k (.int .u8 ((sumG l k).1 : Nat))
        have hz := HNE.out
        refine ⟨⟨_, hcu.set k _, hC.next hlt⟩, h1.keep (hg.block M h1.lt (fun e => by injection e with e; omega)), h2.keep (hg.block Q h2.lt (fun e => by injection e with e; omega)), h3.keep (hg.block p h3.lt (fun e => by injection e with e; omega)), fun i hi => ?_, h5.setCell (by show M ≤ M + 1; omega) _⟩
        rw [World.cell?_of_block (a := ⟨b, off + i, none⟩) (hg.block b (World.block_lt_of_cell? wr _ (h4 i hi)) (fun e => by injection e with e; omega))]
        exact h4 i hi
      generalize (sumG l k).1 = sk at H1 HN2
      generalize (Em k).1 = ek at H1 c1
      clear hcu hC h1 h2 h3 h4 h5 HI hx
      go_wp2_with (first
        | (go_at_call 57; refine H1.out.mono ?_; rintro e1 w5 ⟨rfl, hw⟩; obtain rfl := hw.symm; clear hw H1))
      go_roundw
      case rel => exact ⟨k + 1, by omega, by go_num, HN2.out⟩
      case measure => simp [intOf]; omega
    · obtain rfl : k = 4 := by omega
      obtain ⟨⟨cu, hcu, hC⟩, h1, h2, h3, h4, h5⟩ := HI.out
      have HC : Hid (Bx wr (M + 1) 77 (fc (sumL l)) ∧ Bx wr M 77 (List.replicate 4 (.int .u8 0)) ∧ Below M w wr) := by unfold sumL; rw [← hC.all]; exact ⟨hcu, h1, h5⟩
      have HLN : Hid ((fc (sumL l)).length = 4 ∧ ∀ v ∈ fc (sumL l), v.oneCell' = true) := ⟨by rw [fc_len]; rfl, fc_one _⟩
      have hi7 : (Try.prog.info? 77).map (·.size) = some (fc (sumL l)).length := by rw [HLN.out.1]; kernel_rfl
      obtain ⟨R, HR⟩ : ∃ R, Hid (fc (sumL l) = R) := ⟨_, rfl⟩
      rw [HR.out] at HC HLN hi7
      clear hcu hC h1 h2 h3 h4 h5 HI
      go_wp2_with (first
        | (refine wpList_load_mid (by rfl) 77 (.tmp 3) (by rfl) (M + 1) 0 (by rfl) R _ HC.out.1.range Try.underlying77 rfl hi7 ?_)
        | (refine wpList_store_bx (by rfl) 77 (.tmp 2) (.tmp 22) (by rfl) (List.replicate 4 (.int .u8 0)) R M (by rfl) (by rfl) HC.out.2.1 (by rw [HLN.out.1]; rfl) hi7 HLN.out.2 ?_; intro u9 hb9 hg9))
      refine ret_array (b := M) R rfl rfl hb9.range Try.underlying77 rfl hi7 ⟨by rw [HR.out], ?_⟩
      have hf : Below M w u9 := HC.out.2.2.trans (below_gb hg9 (by have := HC.out.2.1.lt; omega) (Nat.le_refl _))
      first | exact hf | (rw [HMM.out]; exact hf)
end Go.Proofs.Ytffejkfkkciaaaa
