import Derived.Test.YtaejoohbmdckhaaWe
namespace Go.Proofs.Ytaejoohbmdckhaa
open Go.RowKit
set_option linter.unusedVariables false
set_option linter.unusedSimpArgs false
/-- Every old block but n is as it was. -/
structure Stay (n : Nat) (W u : World) : Prop where
  os : u.os = W.os
  tape : u.tape = W.tape
  output : u.output = W.output
  size : W.heap.size ≤ u.heap.size
  block : ∀ k, k < W.heap.size → k ≠ n → u.heap[k]? = W.heap[k]?
theorem Stay.refl (n : Nat) (W : World) : Stay n W W := ⟨rfl, rfl, rfl, Nat.le_refl _, fun _ _ _ => rfl⟩
theorem Stay.of {n : Nat} {W u : World} (h : Below W.heap.size W u) : Stay n W u := ⟨h.os, h.tape, h.output, h.size, fun k hk _ => h.block k hk⟩
theorem Stay.trans {n : Nat} {a b c : World} (h : Stay n a b) (k : Stay n b c) : Stay n a c :=
  ⟨k.os.trans h.os, k.tape.trans h.tape, k.output.trans h.output, Nat.le_trans h.size k.size, fun i hi hn => (k.block i (Nat.lt_of_lt_of_le hi h.size) hn).trans (h.block i hi hn)⟩
theorem Stay.set {n : Nat} {W u : World} (h : Stay n W u) (o : Nat) (v : Value) : Stay n W (u.setCell ⟨n, o, none⟩ v) :=
  h.trans ⟨rfl, rfl, rfl, by simp [World.setCell], fun k hk hn => Below.heap_setCell _ _ _ _ hn⟩
theorem Stay.cell {n : Nat} {W u : World} (h : Stay n W u) {b o : Nat} (hb : b < W.heap.size) (hn : b ≠ n) : u.cell? ⟨b, o, none⟩ = W.cell? ⟨b, o, none⟩ := World.cell?_of_block (w := W) (h.block b hb hn)
theorem Stay.below {n B : Nat} {W u : World} (h : Stay n W u) (hB : B ≤ n) (hs : B ≤ W.heap.size) : Below B W u := ⟨h.os, h.tape, h.output, h.size, fun k hk => h.block k (by omega) (by omega)⟩
theorem yieldsIf_build {P : Program} {ops : Array Oper} {S : World → Prop} {op : Oper} {a : Act} (hw : Region.wanted op (yielded ops a.tmps) = true) (ty : TypeId) (parts : Array (Nat × Operand)) (ho : op.op = .build ty parts) (pv : List (Nat × Value)) (hpv : (parts.map fun (i, x) => (i, a.eval x)).toList = pv) (cells : Array Value) (hb : P.built ty pv = some cells) : YieldsIf P ops S op (.agg cells) a :=
  .inl ⟨hw, fun w _ => by
    have hrun := run_build (P := P) w ty (parts.map fun (i, x) => (i, a.eval x)) cells (by rw [hpv]; exact hb)
    unfold execOp
    simp only [ho, Sem.run_bind, hrun, Result.andThen_ok, Sem.run_pure]⟩
/-- What Test tells, as cells. -/
def heC (c r m o : Int) (e0 e1 e2 e3 e4 e5 e6 e7 fa pk tu : Int) : Array Value := #[.int .i64 c, .int .i64 r, .int .i64 m, .int .i64 o, .int .i64 e0, .int .i64 e1, .int .i64 e2, .int .i64 e3, .int .i64 e4, .int .i64 e5, .int .i64 e6, .int .i64 e7, .int .i64 fa, .int .i64 pk, .int .i64 tu]
theorem built27 (c r m o : Int) (e0 e1 e2 e3 e4 e5 e6 e7 fa pk tu : Int) : Try.prog.built 27 [(0, .int .i64 c), (1, .int .i64 r), (2, .int .i64 m), (3, .int .i64 o), (4, .agg #[.int .i64 e0, .int .i64 e1, .int .i64 e2, .int .i64 e3, .int .i64 e4, .int .i64 e5, .int .i64 e6, .int .i64 e7]), (5, .int .i64 fa), (6, .int .i64 pk), (7, .int .i64 tu)] = some (heC c r m o e0 e1 e2 e3 e4 e5 e6 e7 fa pk tu) := by kernel_rfl
theorem zero27 : (Try.prog.info? 27).bind (·.zero) = some (.agg (List.replicate 15 (.int .i64 0)).toArray) := by kernel_rfl
theorem size27 : (Try.prog.info? 27).map (·.size) = some 15 := by kernel_rfl
theorem setCells_stay (b : Nat) : ∀ (vs : List Value) (o : Nat) (w : World), Stay b w (w.setCells b o vs)
  | [], o, w => Stay.refl b w
  | v :: r, o, w => ((Stay.refl b w).set o v).trans (setCells_stay b r (o + 1) _)
theorem Tm.there {W : World} {G t n : Nat} {g : Nat → Int} (h : Tm W G t g n) : W.there G 0 n := fun j hj => by
  rw [Nat.zero_add]
  exact ⟨by rw [h.cell j hj]; rfl, h.frozen j⟩
def teC (f : Nat → Nat) (n : Nat) : Array Value := heC n (lgF f n : Nat) (moF f n : Nat) (onesF f n : Nat) (enF f n 3 n 0) (enF f n 3 n 1) (enF f n 3 n 2) (enF f n 3 n 3) (enF f n 3 n 4) (enF f n 3 n 5) (enF f n 3 n 6) (enF f n 3 n 7) (frF f n) (sqS (fun x => pk f x n) 16 : Nat) (tuF f n : Nat)
theorem endL_is (f : Nat → Nat) (n : Nat) : endL f n = [.int .i64 (enF f n 3 n 0), .int .i64 (enF f n 3 n 1), .int .i64 (enF f n 3 n 2), .int .i64 (enF f n 3 n 3), .int .i64 (enF f n 3 n 4), .int .i64 (enF f n 3 n 5), .int .i64 (enF f n 3 n 6), .int .i64 (enF f n 3 n 7)] := by
  simp [endL, List.range_succ]
theorem By.stay {w w' : World} {p : Option Addr} {n k : Nat} {f : Nat → Nat} (h : By w p n f) (hb : Below w.heap.size w w') : By w' p n f := h.below hb
set_option maxRecDepth 100000 in
set_option maxHeartbeats 4000000 in
theorem test_ok (p : Option Addr) (n c : Nat) (f : Nat → Nat) (hn : n ≤ 131072) (w : World) (h : By w p n f) : Calls Try.prog 6 #[.slice p n c] w fun e w' => e = .returned (.tuple #[.agg (teC f n), .int .i64 0]) ∧ Below w.heap.size w w' := by
  have H : Hid (By w p n f) := h
  clear h
  have hn0 : decide ((1048576 : Int) < (n : Int)) = false := by simp; omega
  have hL := endL_is f n
  unfold teC
  generalize enF f n 3 n 0 = e0 at hL ⊢
  generalize enF f n 3 n 1 = e1 at hL ⊢
  generalize enF f n 3 n 2 = e2 at hL ⊢
  generalize enF f n 3 n 3 = e3 at hL ⊢
  generalize enF f n 3 n 4 = e4 at hL ⊢
  generalize enF f n 3 n 5 = e5 at hL ⊢
  generalize enF f n 3 n 6 = e6 at hL ⊢
  generalize enF f n 3 n 7 = e7 at hL ⊢
  obtain ⟨FR, hFR⟩ : ∃ F, Hid (F = frF f n) := ⟨_, rfl⟩
  obtain ⟨LG, hLG⟩ : ∃ F, Hid (F = lgF f n) := ⟨_, rfl⟩
  obtain ⟨MO, hMO⟩ : ∃ F, Hid (F = moF f n) := ⟨_, rfl⟩
  obtain ⟨ON, hON⟩ : ∃ F, Hid (F = onesF f n) := ⟨_, rfl⟩
  obtain ⟨PO, hPO⟩ : ∃ F, Hid (F = sqS (fun x => pk f x n) 16) := ⟨_, rfl⟩
  obtain ⟨TU, hTU⟩ : ∃ F, Hid (F = tuF f n) := ⟨_, rfl⟩
  rw [← hFR.out, ← hLG.out, ← hMO.out, ← hON.out, ← hPO.out, ← hTU.out]
  obtain ⟨E8, hE8⟩ : ∃ E8 : Array Value, Hid (E8 = #[.int .i64 e0, .int .i64 e1, .int .i64 e2, .int .i64 e3, .int .i64 e4, .int .i64 e5, .int .i64 e6, .int .i64 e7]) := ⟨_, rfl⟩
  have C16 : Hid (∀ u, Below w.heap.size w u → Calls Try.prog 16 #[.slice p n c] u fun e w' => e = .returned (.tuple #[.agg E8, .int .i64 FR]) ∧ Below u.heap.size u w') := fun u hu => by
    have q := walk_ok p n c f hn u (H.out.below hu)
    rw [hL, ← hFR.out] at q
    rw [hE8.out]
    exact q
  have C17 : Hid (∀ u, Below w.heap.size w u → Calls Try.prog 17 #[.slice p n c] u fun e w' => e = .returned (.int .i64 (LG : Nat)) ∧ Below u.heap.size u w') := fun u hu => (run_ok p n c f (by omega) u (H.out.below hu)).mono fun e w' q => ⟨by rw [q.1, hLG.out], by rw [q.2]; exact Below.refl _ _⟩
  have C18 : Hid (∀ u, Below w.heap.size w u → Calls Try.prog 18 #[.slice p n c] u fun e w' => e = .returned (.int .i64 (MO : Nat)) ∧ Below u.heap.size u w') := fun u hu => (most_ok p n c f (by omega) u (H.out.below hu)).mono fun e w' q => ⟨by rw [q.1, hMO.out], q.2⟩
  have C19 : Hid (∀ u, Below w.heap.size w u → Calls Try.prog 19 #[.slice p n c] u fun e w' => e = .returned (.int .i64 (ON : Nat)) ∧ Below u.heap.size u w') := fun u hu => (ones_ok p n c f (by omega) u (H.out.below hu)).mono fun e w' q => ⟨by rw [q.1, hON.out], by rw [q.2]; exact Below.refl _ _⟩
  have C20 : Hid (∀ u, Below w.heap.size w u → Calls Try.prog 20 #[.slice p n c] u fun e w' => e = .returned (.int .i64 (PO : Nat)) ∧ Below u.heap.size u w') := fun u hu => (poker_ok p n c f (by omega) u (H.out.below hu)).mono fun e w' q => ⟨by rw [q.1, hPO.out], q.2⟩
  have C21 : Hid (∀ u, Below w.heap.size w u → Calls Try.prog 21 #[.slice p n c] u fun e w' => e = .returned (.int .i64 (TU : Nat)) ∧ Below u.heap.size u w') := fun u hu => (turned_ok p n c f (by omega) u (H.out.below hu)).mono fun e w' q => ⟨by rw [q.1, hTU.out], by rw [q.2]; exact Below.refl _ _⟩
  have h8s : Hid (E8.size = 8 ∧ E8.all (·.oneCell') = true) := by rw [hE8.out]; exact ⟨rfl, by simp [Value.oneCell']⟩
  have hb27 : Hid (Try.prog.built 27 [(0, .int .i64 (n : Nat)), (1, .int .i64 (LG : Nat)), (2, .int .i64 (MO : Nat)), (3, .int .i64 (ON : Nat)), (4, .agg E8), (5, .int .i64 FR), (6, .int .i64 (PO : Nat)), (7, .int .i64 (TU : Nat))] = some (heC n LG MO ON e0 e1 e2 e3 e4 e5 e6 e7 FR PO TU)) := by rw [hE8.out]; exact built27 _ _ _ _ _ _ _ _ _ _ _ _ _ _ _
  obtain ⟨HC, hHC⟩ : ∃ HC, Hid (HC = heC n LG MO ON e0 e1 e2 e3 e4 e5 e6 e7 FR PO TU) := ⟨_, rfl⟩
  have hHs : Hid (HC.size = 15 ∧ HC.all (·.oneCell') = true) := by rw [hHC.out]; exact ⟨rfl, by simp [heC, Value.oneCell']⟩
  rw [← hHC.out] at hb27 ⊢
  clear hL hFR hLG hMO hON hPO hTU hE8 hHC H
  go_enter Try.func6, Try.ntmps6
  go_upto_region 3 with (refine wpList_alloc_arr (by rfl) 27 15 (by rfl) zero27 ?_; intro W0 G ht0 hb0 hG0 hz0; subst hG0)
  have HB0 : Hid (Below w.heap.size w W0 ∧ W0.heap.size = w.heap.size + 1 ∧ Tm W0 w.heap.size 27 (fun _ => 0) 15) := ⟨hb0, hz0, ht0⟩
  clear hb0 hz0 ht0
  go_upto_region 4 with (first
    | (go_at_call 16; refine (C16.out _ HB0.out.1).mono ?_; rintro ez w1 ⟨rfl, hb1⟩)
    | (refine wpList_alloc_arr (by rfl) 25 8 (by rfl) zero25 ?_; intro W2 G2 ht2 hb2 hG2 hz2; subst hG2)
    | (refine wpList_store_mid (by rfl) 25 (.tmp 4) (.tmp 13) (by rfl) w1.heap.size 0 E8 (by rfl) (by rfl) (by rw [h8s.out.1]; exact ht2.there) (by rw [size25, h8s.out.1]) h8s.out.2 ?_))
  try simp only [Act.put, List.setIfInBounds_toArray, List.set_cons_zero, List.set_cons_succ]
  have HW : Hid (Below w.heap.size w (W2.setCells w1.heap.size 0 E8.toList) ∧ Tm (W2.setCells w1.heap.size 0 E8.toList) w.heap.size 27 (fun _ => 0) 15 ∧ (W2.setCells w1.heap.size 0 E8.toList).rangeAt w1.heap.size 0 E8.toList ∧ w.heap.size < w1.heap.size ∧ w1.heap.size < (W2.setCells w1.heap.size 0 E8.toList).heap.size) := by
    have hs1 : w.heap.size < w1.heap.size := by have := hb1.size; have := HB0.out.2.1; omega
    have bx : Below w1.heap.size W2 (W2.setCells w1.heap.size 0 E8.toList) := setCells_below _ _ _ _ _ (Nat.le_refl _)
    have b3 : Below w1.heap.size w1 (W2.setCells w1.heap.size 0 E8.toList) := hb2.trans bx
    have b4 : Below W0.heap.size W0 w1 := hb1
    refine ⟨(HB0.out.1.trans (b4.mono HB0.out.1.size)).trans (b3.mono (by omega)), ?_, ?_, hs1, ?_⟩
    · exact HB0.out.2.2.of ((b3.block _ hs1).trans (b4.block _ (by have := HB0.out.2.1; omega)))
    · exact World.rangeAt_setCells_same W2 w1.heap.size 0 E8.toList (by rw [Array.length_toList, h8s.out.1]; exact ht2.there)
    · have := bx.size; omega
  clear HB0 hb1 ht2 hb2 hz2 C16
  generalize W2.setCells w1.heap.size 0 E8.toList = W4 at HW ⊢
  generalize w1.heap.size = g4 at HW ⊢
  have hB : ∀ u, Stay w.heap.size W4 u → Below w.heap.size w u := fun u hu => HW.out.1.trans (hu.below (Nat.le_refl _) HW.out.1.size)
  have hS0 : Stay w.heap.size W4 W4.drew := Stay.of (Below.refl _ _).drew
  have hrg : ∀ u, Stay w.heap.size W4 u → u.rangeAt g4 0 E8.toList := fun u hu j v hj => (hu.cell HW.out.2.2.2.2 (by have := HW.out.2.2.2.1; omega)).trans (HW.out.2.2.1 j v hj)
  have h25 : (Try.prog.info? 25).map (·.size) = some E8.toList.length := by rw [size25, Array.length_toList, h8s.out.1]
  refine wp_region_noPanic ?_
  refine wp_region_held_drew (S := fun u => Stay w.heap.size W4 u) (by kernel_rfl) (hS0) (fun _ => ?_)
  refine takeH_at 0 15 (.slice p n c) rfl rfl (by kernel_rfl) (by kernel_rfl) (by kernel_rfl) (fun _ _ _ h => h) (hS0) (Or.inl ⟨by rfl, fun w' hS' => by go_simp⟩) ?_
  simp only [List.setIfInBounds_toArray, List.set_cons_zero, List.set_cons_succ]
  refine takeH_at 2 17 (.slice p n c) rfl rfl (by kernel_rfl) (by kernel_rfl) (by kernel_rfl) (fun _ _ _ h => h) (hS0) (Or.inl ⟨by rfl, fun w' hS' => by go_simp⟩) ?_
  simp only [List.setIfInBounds_toArray, List.set_cons_zero, List.set_cons_succ]
  refine takeH_at 4 19 (.slice p n c) rfl rfl (by kernel_rfl) (by kernel_rfl) (by kernel_rfl) (fun _ _ _ h => h) (hS0) (Or.inl ⟨by rfl, fun w' hS' => by go_simp⟩) ?_
  simp only [List.setIfInBounds_toArray, List.set_cons_zero, List.set_cons_succ]
  refine takeH_at 6 21 (.slice p n c) rfl rfl (by kernel_rfl) (by kernel_rfl) (by kernel_rfl) (fun _ _ _ h => h) (hS0) (Or.inl ⟨by rfl, fun w' hS' => by go_simp⟩) ?_
  simp only [List.setIfInBounds_toArray, List.set_cons_zero, List.set_cons_succ]
  refine takeH_at 10 25 (.slice p n c) rfl rfl (by kernel_rfl) (by kernel_rfl) (by kernel_rfl) (fun _ _ _ h => h) (hS0) (Or.inl ⟨by rfl, fun w' hS' => by go_simp⟩) ?_
  simp only [List.setIfInBounds_toArray, List.set_cons_zero, List.set_cons_succ]
  refine takeH_at 12 27 (.slice p n c) rfl rfl (by kernel_rfl) (by kernel_rfl) (by kernel_rfl) (fun _ _ _ h => h) (hS0) (Or.inl ⟨by rfl, fun w' hS' => by go_simp⟩) ?_
  simp only [List.setIfInBounds_toArray, List.set_cons_zero, List.set_cons_succ]
  refine takeH_at 1 16 (.int .i64 (n : Nat)) rfl rfl (by kernel_rfl) (by kernel_rfl) (by kernel_rfl) (fun _ _ _ h => h) (hS0) (Or.inl ⟨by rfl, fun w' hS' => by go_simp⟩) ?_
  simp only [List.setIfInBounds_toArray, List.set_cons_zero, List.set_cons_succ]
  refine takeH_at 9 24 (.int .i64 FR) rfl rfl (by kernel_rfl) (by kernel_rfl) (by kernel_rfl) (fun _ _ _ h => h) (hS0) (Or.inl ⟨by rfl, fun w' hS' => by go_simp⟩) ?_
  simp only [List.setIfInBounds_toArray, List.set_cons_zero, List.set_cons_succ]
  refine takeH_at 8 23 (.agg E8.toList.toArray) rfl rfl (by kernel_rfl) (by kernel_rfl) (by kernel_rfl) (fun _ _ _ h => h) hS0 (yieldsIf_load_mid (by rfl) 25 (.tmp 4) rfl g4 0 rfl E8.toList _ hrg Try.underlying25 rfl h25) ?_
  simp only [List.setIfInBounds_toArray, List.set_cons_zero, List.set_cons_succ]
  refine wpAnyH_ready (rs := [3]) (by kernel_rfl) (by simp) ?_
  refine AllReadyH.cons rfl (fun K hK => ?_) AllReadyH.nil
  go_simp
  refine (C17.out _ (hB _ hS0)).mono ?_
  rintro e91 q1 ⟨rfl, hb1⟩
  have hS1 : Stay w.heap.size W4 q1 := (hS0).trans (Stay.of hb1)
  go_wp2_with fail
  refine hK.out _ _ hS1 (fun _ => ?_)
  clear hK K
  try simp only [Act.put, List.setIfInBounds_toArray, List.set_cons_zero, List.set_cons_succ]
  refine wpAnyH_ready (rs := [5]) (by kernel_rfl) (by simp) ?_
  refine AllReadyH.cons rfl (fun K hK => ?_) AllReadyH.nil
  go_simp
  refine (C18.out _ (hB _ hS1)).mono ?_
  rintro e92 q2 ⟨rfl, hb2⟩
  have hS2 : Stay w.heap.size W4 q2 := (hS1).trans (Stay.of hb2)
  go_wp2_with fail
  refine hK.out _ _ hS2 (fun _ => ?_)
  clear hK K
  try simp only [Act.put, List.setIfInBounds_toArray, List.set_cons_zero, List.set_cons_succ]
  refine wpAnyH_ready (rs := [7]) (by kernel_rfl) (by simp) ?_
  refine AllReadyH.cons rfl (fun K hK => ?_) AllReadyH.nil
  go_simp
  refine (C19.out _ (hB _ hS2)).mono ?_
  rintro e93 q3 ⟨rfl, hb3⟩
  have hS3 : Stay w.heap.size W4 q3 := (hS2).trans (Stay.of hb3)
  go_wp2_with fail
  refine hK.out _ _ hS3 (fun _ => ?_)
  clear hK K
  try simp only [Act.put, List.setIfInBounds_toArray, List.set_cons_zero, List.set_cons_succ]
  refine wpAnyH_ready (rs := [11]) (by kernel_rfl) (by simp) ?_
  refine AllReadyH.cons rfl (fun K hK => ?_) AllReadyH.nil
  go_simp
  refine (C20.out _ (hB _ hS3)).mono ?_
  rintro e94 q4 ⟨rfl, hb4⟩
  have hS4 : Stay w.heap.size W4 q4 := (hS3).trans (Stay.of hb4)
  go_wp2_with fail
  refine hK.out _ _ hS4 (fun _ => ?_)
  clear hK K
  try simp only [Act.put, List.setIfInBounds_toArray, List.set_cons_zero, List.set_cons_succ]
  refine wpAnyH_ready (rs := [13]) (by kernel_rfl) (by simp) ?_
  refine AllReadyH.cons rfl (fun K hK => ?_) AllReadyH.nil
  go_simp
  refine (C21.out _ (hB _ hS4)).mono ?_
  rintro e95 q5 ⟨rfl, hb5⟩
  have hS5 : Stay w.heap.size W4 q5 := (hS4).trans (Stay.of hb5)
  go_wp2_with fail
  refine hK.out _ _ hS5 (fun _ => ?_)
  clear hK K
  try simp only [Act.put, List.setIfInBounds_toArray, List.set_cons_zero, List.set_cons_succ]
  refine takeH_at 14 29 (.agg HC) rfl rfl (by kernel_rfl) (by kernel_rfl) (by kernel_rfl) (fun _ _ _ h => h) hS5 (yieldsIf_build (by rfl) 27 _ rfl [(0, .int .i64 (n : Nat)), (1, .int .i64 (LG : Nat)), (2, .int .i64 (MO : Nat)), (3, .int .i64 (ON : Nat)), (4, .agg E8), (5, .int .i64 FR), (6, .int .i64 (PO : Nat)), (7, .int .i64 (TU : Nat))] (by simp only [List.map_toArray, List.map_cons, List.map_nil]; rfl) HC hb27.out) ?_
  simp only [List.setIfInBounds_toArray, List.set_cons_zero, List.set_cons_succ]
  have t5 : Tm q5 w.heap.size 27 (fun _ => 0) 15 := by
    have hbb : Below W4.heap.size W4 q5 := ((((((Below.refl _ _).drew).trans (hb1.mono (Nat.le_refl _))).trans (hb2.mono hb1.size)).trans (hb3.mono (Nat.le_trans hb1.size hb2.size))).trans (hb4.mono (Nat.le_trans (Nat.le_trans hb1.size hb2.size) hb3.size))).trans (hb5.mono (Nat.le_trans (Nat.le_trans (Nat.le_trans hb1.size hb2.size) hb3.size) hb4.size))
    exact HW.out.2.1.of (hbb.block _ HW.out.2.1.lt)
  refine wpAnyH_ready (rs := [15]) (by kernel_rfl) (by simp) ?_
  refine AllReadyH.cons rfl (fun K hK => ?_) AllReadyH.nil
  rw [if_pos (by rfl)]
  refine wp_store_mid 27 (.tmp 2) (.tmp 29) rfl w.heap.size 0 HC rfl rfl (by rw [hHs.out.1]; exact t5.there) (by rw [size27, hHs.out.1]) hHs.out.2 ?_
  have hS6 : Stay w.heap.size W4 (q5.setCells w.heap.size 0 HC.toList) := hS5.trans (setCells_stay w.heap.size HC.toList 0 q5)
  refine hK.out _ _ hS6 (fun _ => ?_)
  clear hK K
  try simp only [Act.put]
  refine takeH_at 16 3 (.int .i64 0) rfl rfl (by kernel_rfl) (by kernel_rfl) (by kernel_rfl) (fun _ _ _ h => h) (hS6) (Or.inl ⟨by rfl, fun w' hS' => by go_simp⟩) ?_
  simp only [List.setIfInBounds_toArray, List.set_cons_zero, List.set_cons_succ]
  refine wpAnyH_done (by kernel_rfl) ?_ _
  refine NoPanic.normal ?_
  have hF : (q5.setCells w.heap.size 0 HC.toList).heap[w.heap.size]? = some (.cells HC 27 (0, 0)) := by
    obtain ⟨cs, q1, q2, _⟩ := t5
    rw [setCells_heap w.heap.size 27 HC.toList 0 q5 cs q1, setL_at _ _ _ (by simp [q2, hHs.out.1])]
    have hd : List.drop 15 cs.toList = [] := List.drop_eq_nil_of_le (by rw [Array.length_toList, q2]; exact Nat.le_refl _)
    simp [hHs.out.1, hd]
  go_wp2_with fail
  refine bodyPost_ret (v := .tuple #[.agg HC, .int .i64 0]) (results_cell_two (p := 2) (u := 3) (ty := 27) rfl _ _ w.heap.size 27 HC (0, 0) _ rfl hF Try.underlying27 rfl (by rw [size27, hHs.out.1])) rfl ?_
  exact ⟨rfl, hB _ hS6⟩
end Go.Proofs.Ytaejoohbmdckhaa
