import Derived.Test.YtffejkfkkciaaaaEnr
import Derived.Test.YtffejkfkkciaaaaEcl
import Derived.Test.YtffejkfkkciaaaaTake
import Derived.Deep.Cut
namespace Go.Proofs.Ytffejkfkkciaaaa
open Go.RowKit
set_option linter.unusedVariables false
set_option linter.unusedSimpArgs false
/-- What the reference's near says. -/
def NearQ (l : List F) (n B : Nat) (e : Ending) (w w' : World) : Prop :=
  ((∃ g o c' m, e = .returned (.tuple #[.slice (some ⟨g, o, none⟩) n c', .int .i64 (dif m l n : Nat), .bool true]) ∧ Nr l m ∧ n ≤ c' ∧ Rw w' g o m ∧ g < w'.heap.size) ∨ ((∀ m, ¬ Nr l m) ∧ e = .returned (.tuple #[.slice none 0 0, .int .i64 0, .bool false]))) ∧ Below B w w'
structure NeI (M S p b off : Nat) (l : List F) (w u : World) : Prop where
  rw : Rw u b off l
  bs : Bx u S 51 (fc (sumL l))
  pw : ∀ q, q < 255 → u.cell? ⟨p, q, none⟩ = some (.int .u8 ((Em q).1 : Nat))
  bel : Below M w u
  hb : b < u.heap.size
  hm : M ≤ u.heap.size
theorem NeI.below {M S p b off : Nat} {l : List F} {w u v : World} (h : NeI M S p b off l w u) (hv : Below u.heap.size u v) : NeI M S p b off l w v :=
  ⟨h.rw.below hv, h.bs.below hv, fun q hq => (hv.cell (World.block_lt_of_cell? _ _ (h.pw q hq))).trans (h.pw q hq), h.bel.trans (hv.mono h.hm), Nat.lt_of_lt_of_le h.hb hv.size, Nat.le_trans h.hm hv.size⟩
theorem NeI.s {M S p b off : Nat} {l : List F} {w u : World} (h : NeI M S p b off l w u) : u.cell? ⟨S, 0, none⟩ = some (.int .u8 ((sumG l 0).1 : Nat)) ∧ u.cell? ⟨S, 1, none⟩ = some (.int .u8 ((sumG l 1).1 : Nat)) ∧ u.cell? ⟨S, 2, none⟩ = some (.int .u8 ((sumG l 2).1 : Nat)) ∧ u.cell? ⟨S, 3, none⟩ = some (.int .u8 ((sumG l 3).1 : Nat)) :=
  ⟨h.bs.cell 0 _ rfl, h.bs.cell 1 _ rfl, h.bs.cell 2 _ rfl, h.bs.cell 3 _ rfl⟩
/-- The table of inverses, as far as it is filled. -/
def InvT (u : World) (V i : Nat) : Prop := ∃ cu, Bx u V 55 cu ∧ Cu 256 0 (fun _ => 0) cu ∧ ∀ r, r < i → cu[(Em r).1]? = some (.int .u8 ((invF (Em r)).1 : Nat))
theorem inv_Em (q B : Nat) (hq : q < 255) (hB : (255 - q) % 255 = B) : invF (Em q) = Em B := by
  refine inv_only (invF_mul _ (Em_ne q)) ?_
  rw [Em_mul, ← hB]
  apply Fin.ext
  show pwT ((q + (255 - q) % 255) % 255) = _
  rw [show (q + (255 - q) % 255) % 255 = 0 by omega]
  exact congrArg Fin.val Em_zero
theorem InvT.next {u : World} {V i : Nat} (h : InvT u V i) (hi : i < 255) : InvT (u.setCell ⟨V, (Em i).1, none⟩ (.int .u8 ((invF (Em i)).1 : Nat))) V (i + 1) := by
  obtain ⟨cu, h1, h2, h3⟩ := h
  refine ⟨_, h1.set _ _, ⟨by rw [List.length_set]; exact h2.1, fun _ q => absurd q (by omega), fun r hr => ?_⟩, fun r hr => ?_⟩
  · by_cases e : (Em i).1 = r
    · exact ⟨_, by rw [e]; exact List.getElem?_set_self (by rw [h2.1]; exact hr)⟩
    · rw [List.getElem?_set_ne e]; exact h2.2.2 r hr
  · by_cases e : r = i
    · rw [e]; exact List.getElem?_set_self (by rw [h2.1]; exact (Em i).2)
    · rw [List.getElem?_set_ne (fun q => e (Em_inj r i (by omega) hi (Fin.ext q.symm)))]; exact h3 r (by omega)
theorem InvT.at {u : World} {V : Nat} (h : InvT u V 255) (z : F) (hz : z ≠ 0) : u.cell? ⟨V, z.1, none⟩ = some (.int .u8 ((invF z).1 : Nat)) := by
  obtain ⟨cu, h1, h2, h3⟩ := h
  rcases Em_all z with e | ⟨m, hm, rfl⟩
  · exact absurd e hz
  · exact h1.cell _ _ (h3 m hm)
theorem InvT.below {u v : World} {V i : Nat} (h : InvT u V i) (hv : Below u.heap.size u v) : InvT v V i := by
  obtain ⟨cu, h1, h2, h3⟩ := h
  exact ⟨cu, h1.below hv, h2, h3⟩
theorem InvT.frozen {u : World} {V i : Nat} (h : InvT u V i) (j : Nat) : u.frozen? ⟨V, j, none⟩ = false := h.choose_spec.1.frozen j
theorem InvT.cell {u : World} {V i : Nat} (h : InvT u V i) (j : F) : ∃ x : Int, u.cell? ⟨V, j.1, none⟩ = some (.int .u8 x) := by
  obtain ⟨cu, h1, h2, h3⟩ := h
  obtain ⟨x, hx⟩ := h2.2.2 j.1 j.2
  exact ⟨x, h1.cell _ _ hx⟩
theorem InvT.lt {u : World} {V i : Nat} (h : InvT u V i) : V < u.heap.size := h.choose_spec.1.lt
theorem NeI.far {M S p b off V : Nat} {l : List F} {w u v : World} (h : NeI M S p b off l w u) (hv : Below V u v) (h1 : b < V) (h2 : S < V) (h3 : p < V) (h4 : M ≤ V) : NeI M S p b off l w v :=
  ⟨fun i hi => (hv.cell h1).trans (h.rw i hi), h.bs.keep (hv.block S h2), fun q hq => (hv.cell h3).trans (h.pw q hq), h.bel.trans (hv.mono h4), Nat.lt_of_lt_of_le h.hb hv.size, Nat.le_trans h.hm hv.size⟩
def zc55 : Array Value := (List.replicate 256 (Value.int .u8 0)).toArray
theorem zv55 (u : World) : (zeroValue 55).run Try.prog u = .ok (.agg zc55) u := by kernel_rfl
theorem InvT.new (u : World) : InvT (u.alloc (.cells zc55 55)) u.heap.size 0 := by
  refine ⟨List.replicate 256 (.int .u8 0), heap_alloc_new u _, ⟨List.length_replicate, fun _ q => absurd q (by omega), fun i hi => ⟨0, by rw [List.getElem?_replicate_of_lt hi]⟩⟩, fun r hr => absurd hr (by omega)⟩
theorem eqF (a b : F) : ((((a.1 : Nat) : Int)) == (((b.1 : Nat) : Int))) = decide (a = b) := by
  rw [Bool.eq_iff_iff]
  simp only [beq_iff_eq, decide_eq_true_eq]
  exact ⟨fun h => Fin.ext (by omega), fun h => by rw [h]⟩
theorem neF (a b : F) : ((((a.1 : Nat) : Int)) != (((b.1 : Nat) : Int))) = !decide (a = b) := by rw [bne, eqF]
theorem zF (a : F) : ((((a.1 : Nat) : Int)) == 0) = decide (a = 0) := eqF a 0
theorem xval (n i A : Nat) (h : n - 1 - i = A) : X n i = Em A := by unfold X; rw [h]
theorem sub_num (n i A : Nat) (hn : n ≤ 255) (hi : i < n) (hA : n - 1 - i = A) : IntKind.i64.wrap ((n : Int) - 1) = ((n - 1 : Nat) : Int) ∧ IntKind.i64.wrap (((n - 1 : Nat) : Int) - (i : Int)) = (A : Int) ∧ (0 : Int) ≤ (A : Int) ∧ (A : Int) < 255 := by
  refine ⟨?_, ?_, by omega, by omega⟩ <;> (rw [IntKind.wrap_i64]; omega)
theorem next_num (i n : Nat) (h : i < n) (hn : n ≤ 255) : IntKind.i64.wrap ((i : Int) + 1) = ((i + 1 : Nat) : Int) := by rw [IntKind.wrap_i64]; omega
theorem wrap_num (i n : Nat) (h : i < n) (hn : n ≤ 255) : wrap64 ((i : Int) + 1) = ((i + 1 : Nat) : Int) := by unfold wrap64; omega
theorem inv_num (q A B : Nat) (hq : q < 255) (hA : 255 - q = A) (hB : A % 255 = B) : IntKind.i64.wrap (255 - (q : Int)) = (A : Int) ∧ (A : Int).tmod 255 = (B : Int) ∧ IntKind.i64.wrap (B : Int) = (B : Int) ∧ (0 : Int) ≤ (B : Int) ∧ (B : Int) < 255 ∧ (0 : Int) ≤ (q : Int) ∧ (q : Int) < 255 := by
  refine ⟨?_, ?_, ?_, by omega, by omega, by omega, by omega⟩
  · rw [IntKind.wrap_i64]; omega
  · rw [Int.tmod_eq_emod_of_nonneg (by omega)]; omega
  · rw [IntKind.wrap_i64]; omega
set_option maxHeartbeats 6400000 in
set_option maxRecDepth 100000 in
theorem near_ok (b off c n : Nat) (l : List F) (w : World) (hn : l.length = n) (h14 : 14 ≤ n) (h255 : n ≤ 255) (hc : n ≤ c) (h : Rw w b off l) (hb : b < w.heap.size) : Calls Try.prog 10 #[.slice (some ⟨b, off, none⟩) n c] w fun e w' => NearQ l n w.heap.size e w w' := by
  obtain ⟨M, HMM⟩ : ∃ M, Hid (w.heap.size = M) := ⟨_, rfl⟩
  have HN : Hid (l.length = n ∧ 14 ≤ n ∧ n ≤ 255 ∧ n ≤ c) := ⟨hn, h14, h255, hc⟩
  have HR : Hid (Rw w b off l ∧ b < M) := ⟨h, by rw [← HMM.out]; exact hb⟩
  have H19 : Hid (Calls Try.prog 19 #[.slice (some ⟨b, off, none⟩) n c] w fun e w' => Hid (e = .returned (.agg (fc (sumL l)).toArray) ∧ Below w.heap.size w w')) := by
    have q := rsums_ok b off c l w (by omega) h hb
    rw [hn] at q
    exact q
  have H20 : Hid (∀ u, Calls Try.prog 20 #[.int .i64 255] u fun e w' => Hid (∃ v, e = .returned v ∧ w'.ownsRow u.heap.size 5 1 v 255 (fc ((List.range 255).map Em)) ∧ Below u.heap.size u w')) := fun u => rpowers_ok 255 (by decide) u
  have H21 : Hid (∀ (x y : F) u, Calls Try.prog 21 #[.int .u8 (x.1 : Nat), .int .u8 (y.1 : Nat)] u fun e w' => e = .returned (.int .u8 ((fm x y).1 : Nat)) ∧ w' = u) := fun x y u => rtimesF x y u
  obtain ⟨L, HLL⟩ : ∃ L, Hid (fc (sumL l) = L) := ⟨_, rfl⟩
  rw [HLL.out] at H19
  have HLN : Hid (L.length = 4 ∧ ∀ v ∈ L, v.oneCell' = true) := by rw [← HLL.out]; exact ⟨by rw [fc_len]; rfl, fc_one _⟩
  have hi7 : (Try.prog.info? 51).map (·.size) = some L.length := by rw [HLN.out.1]; kernel_rfl
  have hz7 : (Try.prog.info? 51).map (·.size) = some (fc [0, 0, 0, 0]).length := by kernel_rfl
  clear h hb hn h14 h255 hc
  go_enter Try.func10, Try.ntmps10
  go_upto_region 1 with fail
  go_upto_region 2 with (first
    | (go_at_call 19; refine H19.out.mono ?_; intro e1 w1 hh; obtain ⟨rfl, q⟩ := hh.out; have HB1 : Hid (Below w.heap.size w w1) := q; clear hh q H19)
    | (refine wpList_store_bx (by rfl) 51 (.tmp 5) (.tmp 23) (by rfl) (List.replicate 4 (.int .u8 0)) L w1.heap.size (by rfl) (by rfl) (Bx.new w1 51 _) (by rw [HLN.out.1]; rfl) hi7 HLN.out.2 ?_; intro w2 hb2 hg2; have HB2 : Hid (Bx w2 w1.heap.size 51 L ∧ (w1.alloc (.cells (List.replicate 4 (Value.int .u8 0)).toArray 51)).grownBy w2 (some w1.heap.size)) := ⟨hb2, hg2⟩; clear hb2 hg2))
  go_upto_region 3 with (first
    | (refine wpList_store_bx (by rfl) 51 (.tmp 6) (.tmp 24) (by rfl) (List.replicate 4 (.int .u8 0)) (fc [0, 0, 0, 0]) w2.heap.size (by rfl) (by rfl) (Bx.new w2 51 _) rfl hz7 (fc_one _) ?_; intro w3 hb3 hg3; have HB3 : Hid (Bx w3 w2.heap.size 51 (fc [0, 0, 0, 0]) ∧ (w2.alloc (.cells (List.replicate 4 (Value.int .u8 0)).toArray 51)).grownBy w3 (some w2.heap.size)) := ⟨hb3, hg3⟩; clear hb3 hg3))
  obtain ⟨S, HS⟩ : ∃ S, Hid (w1.heap.size = S) := ⟨_, rfl⟩
  obtain ⟨Z, HZ⟩ : ∃ Z, Hid (w2.heap.size = Z) := ⟨_, rfl⟩
  rw [HS.out] at HB2 ⊢
  rw [HZ.out] at HB3 ⊢
  have HI3 : Hid (Rw w3 b off l ∧ Bx w3 S 51 L ∧ Bx w3 Z 51 (fc [0, 0, 0, 0]) ∧ Below M w w3 ∧ b < w3.heap.size ∧ M ≤ w3.heap.size) := by
    obtain ⟨a1, a2⟩ := HB2.out
    obtain ⟨c1, c2⟩ := HB3.out
    have hm1 : M ≤ w1.heap.size := by rw [← HMM.out]; exact HB1.out.size
    have hsz : S < w2.heap.size := a1.lt
    have hzz : Z < w3.heap.size := c1.lt
    have e1 : Below M w w1 := by rw [← HMM.out]; exact HB1.out
    have e2 : Below M w w2 := (e1.alloc hm1 _).trans (below_gb a2 (by simp; omega) (by have := HS.out; omega))
    have hm2 : M ≤ w2.heap.size := by have := HS.out; omega
    have s3 : Bx w3 S 51 L := ((a1.below ((Below.refl _ _).alloc (Nat.le_refl _) _)).keep (c2.block S (by simp; omega) (fun e => by injection e with e; have := HZ.out; omega)))
    have e3 : Below M w w3 := (e2.alloc hm2 _).trans (below_gb c2 (by simp; omega) (by have := HZ.out; omega))
    exact ⟨HR.out.1.below (by rw [HMM.out]; exact e3), s3, c1, e3, Nat.lt_of_lt_of_le HR.out.2 (by have := HS.out; have := HZ.out; omega), by have := HS.out; have := HZ.out; omega⟩
  clear HB1 HB2 HB3 HS HZ
  have r5 : w3.rangeAt S 0 L := HI3.out.2.1.range
  have r6 : w3.rangeAt Z 0 (fc [0, 0, 0, 0]) := HI3.out.2.2.1.range
  obtain ⟨d, HD⟩ : ∃ d : Bool, Hid ((d = true ↔ sumL l = [0, 0, 0, 0]) ∧ ∀ u, (binOp .eql 51 (.agg L.toArray) (.agg (fc [0, 0, 0, 0]).toArray)).run Try.prog u = .ok (.bool d) u) := by
    refine ⟨decide (sumL l = [0, 0, 0, 0]), decide_eq_true_iff, fun u => ?_⟩
    rw [← HLL.out]
    exact eql4 51 Try.und51 (sumL l) [0, 0, 0, 0] rfl rfl u
  have hq := HD.out.2
  cases d with
  | true =>
    have hz := HD.out.1.1 rfl
    have HQ : Hid (NearQ l n M (.returned (.tuple #[.slice (some ⟨b, off, none⟩) n c, .int .i64 0, .bool true])) w w3) := by
      refine ⟨Or.inl ⟨b, off, c, l, by rw [dif_self]; rfl, ⟨hz, 1, 0, rfl, by have := HN.out; omega, by have := HN.out; omega, by decide, fun _ _ _ _ => rfl⟩, HN.out.2.2.2, HI3.out.1, HI3.out.2.2.2.2.1⟩, HI3.out.2.2.2.1⟩
    clear hz
    go_wp2_with (first
      | (refine wpList_load_mid (by rfl) 51 (.tmp 5) (by rfl) S 0 (by rfl) L _ r5 Try.underlying51 rfl hi7 ?_)
      | (refine wpList_load_mid (by rfl) 51 (.tmp 6) (by rfl) Z 0 (by rfl) (fc [0, 0, 0, 0]) _ r6 Try.underlying51 rfl hz7 ?_))
    go_ret3
    rw [HMM.out]
    exact HQ.out
  | false =>
  have HNZ : Hid (sumL l ≠ [0, 0, 0, 0]) := fun e => by have := HD.out.1.2 e; cases this
  go_upto_region 5 with (first
      | (refine wpList_load_mid (by rfl) 51 (.tmp 5) (by rfl) S 0 (by rfl) L _ r5 Try.underlying51 rfl hi7 ?_)
      | (refine wpList_load_mid (by rfl) 51 (.tmp 6) (by rfl) Z 0 (by rfl) (fc [0, 0, 0, 0]) _ r6 Try.underlying51 rfl hz7 ?_))
  go_upto_region 7 with (first
      | (go_at_call 20; refine (H20.out w3).mono ?_; intro e4 w4 hh; obtain ⟨v, rfl, q1, q2⟩ := hh.out; have HB4 : Hid (Below w3.heap.size w3 w4) := q2; obtain ⟨p, pc, rfl, HP⟩ := own_row255 q1; clear hh q1 q2))
  have HI0 : Hid (NeI M S p b off l w w4) := by
    obtain ⟨q1, q2, q3, q4, q5, q6⟩ := HI3.out
    exact ⟨q1.below HB4.out, by rw [HLL.out]; exact q2.below HB4.out, HP.out.1, q4.trans (HB4.out.mono q6), Nat.lt_of_lt_of_le q5 HB4.out.size, Nat.le_trans q6 HB4.out.size⟩
  clear HI3 HB4 HP hq HD r5 r6 hi7 hz7 HLN HLL
  have HX0 : Hid (∀ j, j < 4 → True) := fun _ _ => trivial
  obtain ⟨s0, Hs0⟩ : ∃ z : F, Hid (sumG l 0 = z) := ⟨_, rfl⟩
  obtain ⟨s1, Hs1⟩ : ∃ z : F, Hid (sumG l 1 = z) := ⟨_, rfl⟩
  obtain ⟨s2, Hs2⟩ : ∃ z : F, Hid (sumG l 2 = z) := ⟨_, rfl⟩
  obtain ⟨s3, Hs3⟩ : ∃ z : F, Hid (sumG l 3 = z) := ⟨_, rfl⟩
  have HCS : Hid (∀ u, NeI M S p b off l w u → u.cell? ⟨S, 0, none⟩ = some (.int .u8 (s0.1 : Nat)) ∧ u.cell? ⟨S, 1, none⟩ = some (.int .u8 (s1.1 : Nat)) ∧ u.cell? ⟨S, 2, none⟩ = some (.int .u8 (s2.1 : Nat)) ∧ u.cell? ⟨S, 3, none⟩ = some (.int .u8 (s3.1 : Nat))) := fun u hu => by
    have q := hu.s
    rw [Hs0.out, Hs1.out, Hs2.out, Hs3.out] at q
    exact q
  go_wp2
  go_loopw [9] (fun vi wr => ∃ i : Nat, i ≤ n ∧ vi = .int .i64 (i : Nat) ∧ Hid (NeI M S p b off l w wr ∧ ∀ q, q < i → ¬ one1 l q)) (fun vi _ => n - (intOf vi).toNat)
  case atStart => exact ⟨0, by omega, rfl, HI0.out, fun _ h => absurd h (by omega)⟩
  case round =>
    obtain ⟨i, hi, rfl, HI⟩ := hrel
    clear HI0
    by_cases hlt : i < n
    · have HLT : Hid (i < n) := hlt
      have g1 : (i : Int) < (n : Int) := by omega
      have g0 : (0 : Int) ≤ (i : Int) := by omega
      obtain ⟨A, HA⟩ : ∃ A, Hid (n - 1 - i = A) := ⟨_, rfl⟩
      obtain ⟨a1, a2, a3, a4⟩ := sub_num n i A HN.out.2.2.1 hlt HA.out
      obtain ⟨x, Hx⟩ : ∃ z : F, Hid (X n i = z) := ⟨_, rfl⟩
      have cx : ∀ u, NeI M S p b off l w u → u.cell? ⟨p, A, none⟩ = some (.int .u8 (x.1 : Nat)) := fun u hu => by
        rw [← Hx.out, xval n i A HA.out]
        exact hu.pw A (by have := HA.out; have := HN.out; omega)
      have HCX : Hid (∀ u, NeI M S p b off l w u → u.cell? ⟨p, A, none⟩ = some (.int .u8 (x.1 : Nat))) := cx
      clear cx hi hlt
      obtain ⟨K, HK⟩ : ∃ K, Hid (wr.heap.size = K) := ⟨_, rfl⟩
      have hbs := bs0 wr
      go_upto_region 11 with (first
        | (refine wpList_clone (by rfl) (.tmp 37) (.tmp 38) (by rfl) wr.heap.size (by rfl) (new_none wr) b off n c l (by rfl) HN.out.1 (by have := HN.out; omega) (by have := HN.out; omega) (HI.out.1.rw.below ((Below.refl _ _).alloc (Nat.le_refl _) _)) ?_; intro g c' w1 hc1 hg1 hr1 hb1; have HG : Hid (n ≤ c' ∧ K ≤ g ∧ Rx w1 g l ∧ Below wr.heap.size wr w1) := ⟨hc1, by rw [← HK.out]; exact hg1, hr1, Below.trans ((Below.refl _ _).alloc (Nat.le_refl _) _) hb1⟩; clear hc1 hg1 hr1 hb1))
      clear hbs
      have HN1 : Hid (NeI M S p b off l w w1) := HI.out.1.below HG.out.2.2.2
      obtain ⟨li, HLI⟩ : ∃ z : F, Hid (l.getD i 0 = z) := ⟨_, rfl⟩
      obtain ⟨ri, HRI⟩ : ∃ z : F, Hid (fa li s0 = z) := ⟨_, rfl⟩
      have hx0 : bits .xor .u8 ((li.1 : Nat) : Int) ((s0.1 : Nat) : Int) = ((ri.1 : Nat) : Int) := by rw [xorF, HRI.out]
      have hS0 : w1.drew.cell? ⟨g, i, none⟩ = some (.int .u8 (li.1 : Nat)) ∧ w1.drew.cell? ⟨S, 0, none⟩ = some (.int .u8 (s0.1 : Nat)) := ⟨by rw [← HLI.out]; exact HG.out.2.2.1.cell i (by rw [HN.out.1]; exact HLT.out), (HCS.out w1 HN1.out).1⟩
      have hfz : w1.drew.frozen? ⟨g, i, none⟩ = false := HG.out.2.2.1.frozen i
      have hcell := hS0.1
      refine wp_region_noPanic ?_
      refine wp_region_till (fun u => u.cell? ⟨g, i, none⟩ = some (.int .u8 (li.1 : Nat)) ∧ u.cell? ⟨S, 0, none⟩ = some (.int .u8 (s0.1 : Nat))) 10 (by kernel_rfl) (by decide) (by decide +kernel) (by decide +kernel) (by decide +kernel) (fun inv => ?_)
      refine till_at 0 40 (.slice (some ⟨g, 0, none⟩) n c') inv rfl rfl (by decide) (by decide +kernel) (by decide +kernel) (fun _ _ _ h => h) (hS0) (Or.inl ⟨by rfl, fun w' hS' => by obtain ⟨k1, k2⟩ := hS'; go_simp⟩) (fun inv' => ?_)
      clear inv; have inv := inv'; clear inv'
      try simp only [List.setIfInBounds_toArray, List.set_cons_zero, List.set_cons_succ]
      refine till_at 1 41 (.int .i64 (i : Nat)) inv rfl rfl (by decide) (by decide +kernel) (by decide +kernel) (fun _ _ _ h => h) (hS0) (Or.inl ⟨by rfl, fun w' hS' => by obtain ⟨k1, k2⟩ := hS'; go_simp⟩) (fun inv' => ?_)
      clear inv; have inv := inv'; clear inv'
      try simp only [List.setIfInBounds_toArray, List.set_cons_zero, List.set_cons_succ]
      refine till_at 2 42 (.slice (some ⟨g, 0, none⟩) n c') inv rfl rfl (by decide) (by decide +kernel) (by decide +kernel) (fun _ _ _ h => h) (hS0) (Or.inl ⟨by rfl, fun w' hS' => by obtain ⟨k1, k2⟩ := hS'; go_simp⟩) (fun inv' => ?_)
      clear inv; have inv := inv'; clear inv'
      try simp only [List.setIfInBounds_toArray, List.set_cons_zero, List.set_cons_succ]
      refine till_at 3 43 (.int .i64 (i : Nat)) inv rfl rfl (by decide) (by decide +kernel) (by decide +kernel) (fun _ _ _ h => h) (hS0) (Or.inl ⟨by rfl, fun w' hS' => by obtain ⟨k1, k2⟩ := hS'; go_simp⟩) (fun inv' => ?_)
      clear inv; have inv := inv'; clear inv'
      try simp only [List.setIfInBounds_toArray, List.set_cons_zero, List.set_cons_succ]
      refine till_at 4 44 (.pointer (some ⟨g, i, none⟩)) inv rfl rfl (by decide) (by decide +kernel) (by decide +kernel) (fun _ _ _ h => h) (hS0) (Or.inl ⟨by rfl, fun w' hS' => by obtain ⟨k1, k2⟩ := hS'; go_simp⟩) (fun inv' => ?_)
      clear inv; have inv := inv'; clear inv'
      try simp only [List.setIfInBounds_toArray, List.set_cons_zero, List.set_cons_succ]
      refine till_at 5 45 (.int .u8 ((li).1 : Nat)) inv rfl rfl (by decide) (by decide +kernel) (by decide +kernel) (fun _ _ _ h => h) (hS0) (Or.inl ⟨by rfl, fun w' hS' => by obtain ⟨k1, k2⟩ := hS'; go_simp⟩) (fun inv' => ?_)
      clear inv; have inv := inv'; clear inv'
      try simp only [List.setIfInBounds_toArray, List.set_cons_zero, List.set_cons_succ]
      refine till_at 6 46 (.pointer (some ⟨S, 0, none⟩)) inv rfl rfl (by decide) (by decide +kernel) (by decide +kernel) (fun _ _ _ h => h) (hS0) (Or.inl ⟨by rfl, fun w' hS' => by obtain ⟨k1, k2⟩ := hS'; go_simp⟩) (fun inv' => ?_)
      clear inv; have inv := inv'; clear inv'
      try simp only [List.setIfInBounds_toArray, List.set_cons_zero, List.set_cons_succ]
      refine till_at 7 47 (.int .u8 ((s0).1 : Nat)) inv rfl rfl (by decide) (by decide +kernel) (by decide +kernel) (fun _ _ _ h => h) (hS0) (Or.inl ⟨by rfl, fun w' hS' => by obtain ⟨k1, k2⟩ := hS'; go_simp⟩) (fun inv' => ?_)
      clear inv; have inv := inv'; clear inv'
      try simp only [List.setIfInBounds_toArray, List.set_cons_zero, List.set_cons_succ]
      refine till_at 8 48 (.int .u8 ((ri).1 : Nat)) inv rfl rfl (by decide) (by decide +kernel) (by decide +kernel) (fun _ _ _ h => h) (hS0) (Or.inl ⟨by rfl, fun w' hS' => by obtain ⟨k1, k2⟩ := hS'; go_simp⟩) (fun inv' => ?_)
      clear inv; have inv := inv'; clear inv'
      try simp only [List.setIfInBounds_toArray, List.set_cons_zero, List.set_cons_succ]
      refine till_at 9 49 (.pointer (some ⟨g, i, none⟩)) inv rfl rfl (by decide) (by decide +kernel) (by decide +kernel) (fun _ _ _ h => h) (hS0) (Or.inl ⟨by rfl, fun w' hS' => by obtain ⟨k1, k2⟩ := hS'; go_simp⟩) (fun inv' => ?_)
      clear inv; have inv := inv'; clear inv'
      try simp only [List.setIfInBounds_toArray, List.set_cons_zero, List.set_cons_succ]
      refine till_tail (i := 10) (by decide +kernel) (by decide) rfl (fun KK hK => ?_)
      go_simp
      refine hK.out _ _ ?_
      clear hK KK
      try simp only [List.setIfInBounds_toArray, List.set_cons_zero, List.set_cons_succ]
      refine till_done (by decide +kernel) ?_ _
      refine NoPanic.normal ?_
      have HW : Hid (NeI M S p b off l w (w1.setCell ⟨g, i, none⟩ (.int .u8 (ri.1 : Nat))).drew ∧ Rw (w1.setCell ⟨g, i, none⟩ (.int .u8 (ri.1 : Nat))).drew g 0 (l.set i ri) ∧ g < (w1.setCell ⟨g, i, none⟩ (.int .u8 (ri.1 : Nat))).drew.heap.size) := by
        obtain ⟨q1, q2, q3, q4⟩ := HG.out
        have hb : Below wr.heap.size wr (w1.setCell ⟨g, i, none⟩ (.int .u8 (ri.1 : Nat))).drew := (q4.setCell (by show wr.heap.size ≤ g; rw [HK.out]; exact q2) _).drew
        have hx : Rx (w1.setCell ⟨g, i, none⟩ (.int .u8 (ri.1 : Nat))).drew g (l.set i ri) := Rx.set (w := w1) q3 i (by rw [HN.out.1]; exact HLT.out) ri
        exact ⟨HI.out.1.below hb, hx.rw, hx.lt⟩
      generalize (w1.setCell ⟨g, i, none⟩ (.int .u8 (ri.1 : Nat))).drew = w2 at HW ⊢
      clear hS0 hfz hcell HN1 inv hx0
      have cxx := HCX.out w2 HW.out.1
      obtain ⟨y, Hy⟩ : ∃ z : F, Hid (fm x x = z) := ⟨_, rfl⟩
      go_upto_region 14 with (first
        | (go_at_call 21; refine (H21.out x x _).mono ?_; rintro e5 w5 ⟨rfl, hw⟩; obtain rfl := hw.symm; clear hw; rw [Hy.out]))
      obtain ⟨d0, d1, d2, d3⟩ := HCS.out w2 HW.out.1
      obtain ⟨t1, Ht1⟩ : ∃ z : F, Hid (fm s0 x = z) := ⟨_, rfl⟩
      obtain ⟨t2, Ht2⟩ : ∃ z : F, Hid (fm s0 y = z) := ⟨_, rfl⟩
      obtain ⟨u3, Hu3⟩ : ∃ z : F, Hid (fm x y = z) := ⟨_, rfl⟩
      obtain ⟨t3, Ht3⟩ : ∃ z : F, Hid (fm s0 u3 = z) := ⟨_, rfl⟩
      have HONE : Hid (one1 l i ↔ s1 = t1 ∧ s2 = t2 ∧ s3 = t3) := by
        show _ ↔ _
        unfold one1
        rw [HN.out.1, Hs0.out, Hs1.out, Hs2.out, Hs3.out, Hx.out, Ht1.out, Hy.out, Ht2.out, Hu3.out, Ht3.out]
      have HT21 : Hid (∀ u, (Calls Try.prog 21 #[.int .u8 (s0.1 : Nat), .int .u8 (x.1 : Nat)] u fun e w' => e = .returned (.int .u8 (t1.1 : Nat)) ∧ w' = u) ∧ (Calls Try.prog 21 #[.int .u8 (s0.1 : Nat), .int .u8 (y.1 : Nat)] u fun e w' => e = .returned (.int .u8 (t2.1 : Nat)) ∧ w' = u) ∧ (Calls Try.prog 21 #[.int .u8 (x.1 : Nat), .int .u8 (y.1 : Nat)] u fun e w' => e = .returned (.int .u8 (u3.1 : Nat)) ∧ w' = u) ∧ (Calls Try.prog 21 #[.int .u8 (s0.1 : Nat), .int .u8 (u3.1 : Nat)] u fun e w' => e = .returned (.int .u8 (t3.1 : Nat)) ∧ w' = u)) := fun u => by
        rw [← Ht1.out, ← Ht2.out, ← Hu3.out, ← Ht3.out, ← Hu3.out]
        exact ⟨H21.out _ _ u, H21.out _ _ u, H21.out _ _ u, H21.out _ _ u⟩
      have hS0 : w2.drew.cell? ⟨S, 0, none⟩ = some (.int .u8 (s0.1 : Nat)) ∧ w2.drew.cell? ⟨S, 1, none⟩ = some (.int .u8 (s1.1 : Nat)) ∧ w2.drew.cell? ⟨S, 2, none⟩ = some (.int .u8 (s2.1 : Nat)) ∧ w2.drew.cell? ⟨S, 3, none⟩ = some (.int .u8 (s3.1 : Nat)) := ⟨d0, d1, d2, d3⟩
      clear d0 d1 d2 d3 cxx
      have hno : ¬ one1 l i → Hid (NeI M S p b off l w w2.drew ∧ ∀ q, q < i + 1 → ¬ one1 l q) := fun hno => by
        refine ⟨HW.out.1.below (Below.refl _ _).drew, fun q hq => ?_⟩
        by_cases e : q = i
        · rw [e]; exact hno
        · exact HI.out.2 q (by omega)
      have HNO := hno
      clear hno
      have wn := next_num i n HLT.out HN.out.2.2.1
      by_cases e1 : s1 = t1
      case neg =>
        have f1 : ((((s1).1 : Nat) : Int) == (((t1).1 : Nat) : Int)) = false := by rw [eqF]; exact decide_eq_false e1
        have HF : Hid (¬ one1 l i) := fun h => e1 (HONE.out.1 h).1
        clear e1
        refine wp_region_noPanic ?_
        refine wp_region_held_drew (S := fun u => u.cell? ⟨S, 0, none⟩ = some (.int .u8 (s0.1 : Nat)) ∧ u.cell? ⟨S, 1, none⟩ = some (.int .u8 (s1.1 : Nat)) ∧ u.cell? ⟨S, 2, none⟩ = some (.int .u8 (s2.1 : Nat)) ∧ u.cell? ⟨S, 3, none⟩ = some (.int .u8 (s3.1 : Nat))) (by kernel_rfl) (hS0) (fun _ => ?_)
        refine takeH_at 0 60 (.pointer (some ⟨S, 1, none⟩)) rfl rfl (by kernel_rfl) (by kernel_rfl) (by kernel_rfl) (fun _ _ _ h => h) (hS0) (Or.inl ⟨by kernel_rfl, fun w' hS' => by obtain ⟨k1, k2, k3, k4⟩ := hS'; go_simp⟩) ?_
        simp only [List.setIfInBounds_toArray, List.set_cons_zero, List.set_cons_succ]
        refine takeH_at 1 61 (.int .u8 ((s1).1 : Nat)) rfl rfl (by kernel_rfl) (by kernel_rfl) (by kernel_rfl) (fun _ _ _ h => h) (hS0) (Or.inl ⟨by kernel_rfl, fun w' hS' => by obtain ⟨k1, k2, k3, k4⟩ := hS'; go_simp⟩) ?_
        simp only [List.setIfInBounds_toArray, List.set_cons_zero, List.set_cons_succ]
        refine takeH_at 2 62 (.pointer (some ⟨S, 0, none⟩)) rfl rfl (by kernel_rfl) (by kernel_rfl) (by kernel_rfl) (fun _ _ _ h => h) (hS0) (Or.inl ⟨by kernel_rfl, fun w' hS' => by obtain ⟨k1, k2, k3, k4⟩ := hS'; go_simp⟩) ?_
        simp only [List.setIfInBounds_toArray, List.set_cons_zero, List.set_cons_succ]
        refine takeH_at 3 63 (.int .u8 ((s0).1 : Nat)) rfl rfl (by kernel_rfl) (by kernel_rfl) (by kernel_rfl) (fun _ _ _ h => h) (hS0) (Or.inl ⟨by kernel_rfl, fun w' hS' => by obtain ⟨k1, k2, k3, k4⟩ := hS'; go_simp⟩) ?_
        simp only [List.setIfInBounds_toArray, List.set_cons_zero, List.set_cons_succ]
        refine takeH_at 4 64 (.int .u8 ((x).1 : Nat)) rfl rfl (by kernel_rfl) (by kernel_rfl) (by kernel_rfl) (fun _ _ _ h => h) (hS0) (Or.inl ⟨by kernel_rfl, fun w' hS' => by obtain ⟨k1, k2, k3, k4⟩ := hS'; go_simp⟩) ?_
        simp only [List.setIfInBounds_toArray, List.set_cons_zero, List.set_cons_succ]
        refine wpAnyH_ready (rs := [5]) (by kernel_rfl) (by simp) ?_
        refine AllReadyH.cons rfl (fun Kx hK => ?_) AllReadyH.nil
        rw [if_pos (by kernel_rfl)]
        go_simp
        refine (HT21.out _).1.mono ?_
        rintro e1 q1 ⟨rfl, hw1⟩
        obtain rfl := hw1.symm
        clear hw1
        go_wp2_with fail
        refine hK.out _ _ hS0 (fun _ => ?_)
        clear hK Kx
        try simp only [Act.put, List.setIfInBounds_toArray, List.set_cons_zero, List.set_cons_succ]
        refine takeH_at 6 66 (.bool false) rfl rfl (by kernel_rfl) (by kernel_rfl) (by kernel_rfl) (fun _ _ _ h => h) (hS0) (Or.inl ⟨by kernel_rfl, fun w' hS' => by obtain ⟨k1, k2, k3, k4⟩ := hS'; go_simp⟩) ?_
        simp only [List.setIfInBounds_toArray, List.set_cons_zero, List.set_cons_succ]
        refine takeH_at 7 67 (.bool false) rfl rfl (by kernel_rfl) (by kernel_rfl) (by kernel_rfl) (fun _ _ _ h => h) (hS0) (Or.inl ⟨by kernel_rfl, fun w' hS' => by obtain ⟨k1, k2, k3, k4⟩ := hS'; go_simp⟩) ?_
        simp only [List.setIfInBounds_toArray, List.set_cons_zero, List.set_cons_succ]
        refine takeH_at 8 68 undef rfl rfl (by kernel_rfl) (by kernel_rfl) (by kernel_rfl) (fun _ _ _ h => h) (hS0) (Or.inr ⟨by kernel_rfl, rfl⟩) ?_
        simp only [List.setIfInBounds_toArray, List.set_cons_zero, List.set_cons_succ]
        refine takeH_at 9 69 undef rfl rfl (by kernel_rfl) (by kernel_rfl) (by kernel_rfl) (fun _ _ _ h => h) (hS0) (Or.inr ⟨by kernel_rfl, rfl⟩) ?_
        simp only [List.setIfInBounds_toArray, List.set_cons_zero, List.set_cons_succ]
        refine takeH_at 10 70 undef rfl rfl (by kernel_rfl) (by kernel_rfl) (by kernel_rfl) (fun _ _ _ h => h) (hS0) (Or.inr ⟨by kernel_rfl, rfl⟩) ?_
        simp only [List.setIfInBounds_toArray, List.set_cons_zero, List.set_cons_succ]
        refine takeH_at 11 71 undef rfl rfl (by kernel_rfl) (by kernel_rfl) (by kernel_rfl) (fun _ _ _ h => h) (hS0) (Or.inr ⟨by kernel_rfl, rfl⟩) ?_
        simp only [List.setIfInBounds_toArray, List.set_cons_zero, List.set_cons_succ]
        refine takeH_at 12 72 undef rfl rfl (by kernel_rfl) (by kernel_rfl) (by kernel_rfl) (fun _ _ _ h => h) (hS0) (Or.inr ⟨by kernel_rfl, rfl⟩) ?_
        simp only [List.setIfInBounds_toArray, List.set_cons_zero, List.set_cons_succ]
        refine takeH_at 13 73 undef rfl rfl (by kernel_rfl) (by kernel_rfl) (by kernel_rfl) (fun _ _ _ h => h) (hS0) (Or.inr ⟨by kernel_rfl, rfl⟩) ?_
        simp only [List.setIfInBounds_toArray, List.set_cons_zero, List.set_cons_succ]
        refine takeH_at 14 74 undef rfl rfl (by kernel_rfl) (by kernel_rfl) (by kernel_rfl) (fun _ _ _ h => h) (hS0) (Or.inr ⟨by kernel_rfl, rfl⟩) ?_
        simp only [List.setIfInBounds_toArray, List.set_cons_zero, List.set_cons_succ]
        refine takeH_at 15 75 (.bool false) rfl rfl (by kernel_rfl) (by kernel_rfl) (by kernel_rfl) (fun _ _ _ h => h) (hS0) (Or.inl ⟨by kernel_rfl, fun w' hS' => by obtain ⟨k1, k2, k3, k4⟩ := hS'; go_simp⟩) ?_
        simp only [List.setIfInBounds_toArray, List.set_cons_zero, List.set_cons_succ]
        refine takeH_at 16 76 (.bool false) rfl rfl (by kernel_rfl) (by kernel_rfl) (by kernel_rfl) (fun _ _ _ h => h) (hS0) (Or.inl ⟨by kernel_rfl, fun w' hS' => by obtain ⟨k1, k2, k3, k4⟩ := hS'; go_simp⟩) ?_
        simp only [List.setIfInBounds_toArray, List.set_cons_zero, List.set_cons_succ]
        refine takeH_at 17 77 undef rfl rfl (by kernel_rfl) (by kernel_rfl) (by kernel_rfl) (fun _ _ _ h => h) (hS0) (Or.inr ⟨by kernel_rfl, rfl⟩) ?_
        simp only [List.setIfInBounds_toArray, List.set_cons_zero, List.set_cons_succ]
        refine takeH_at 18 78 undef rfl rfl (by kernel_rfl) (by kernel_rfl) (by kernel_rfl) (fun _ _ _ h => h) (hS0) (Or.inr ⟨by kernel_rfl, rfl⟩) ?_
        simp only [List.setIfInBounds_toArray, List.set_cons_zero, List.set_cons_succ]
        refine takeH_at 19 79 undef rfl rfl (by kernel_rfl) (by kernel_rfl) (by kernel_rfl) (fun _ _ _ h => h) (hS0) (Or.inr ⟨by kernel_rfl, rfl⟩) ?_
        simp only [List.setIfInBounds_toArray, List.set_cons_zero, List.set_cons_succ]
        refine takeH_at 20 80 undef rfl rfl (by kernel_rfl) (by kernel_rfl) (by kernel_rfl) (fun _ _ _ h => h) (hS0) (Or.inr ⟨by kernel_rfl, rfl⟩) ?_
        simp only [List.setIfInBounds_toArray, List.set_cons_zero, List.set_cons_succ]
        refine takeH_at 21 81 undef rfl rfl (by kernel_rfl) (by kernel_rfl) (by kernel_rfl) (fun _ _ _ h => h) (hS0) (Or.inr ⟨by kernel_rfl, rfl⟩) ?_
        simp only [List.setIfInBounds_toArray, List.set_cons_zero, List.set_cons_succ]
        refine takeH_at 22 82 undef rfl rfl (by kernel_rfl) (by kernel_rfl) (by kernel_rfl) (fun _ _ _ h => h) (hS0) (Or.inr ⟨by kernel_rfl, rfl⟩) ?_
        simp only [List.setIfInBounds_toArray, List.set_cons_zero, List.set_cons_succ]
        refine takeH_at 23 83 undef rfl rfl (by kernel_rfl) (by kernel_rfl) (by kernel_rfl) (fun _ _ _ h => h) (hS0) (Or.inr ⟨by kernel_rfl, rfl⟩) ?_
        simp only [List.setIfInBounds_toArray, List.set_cons_zero, List.set_cons_succ]
        refine takeH_at 24 84 undef rfl rfl (by kernel_rfl) (by kernel_rfl) (by kernel_rfl) (fun _ _ _ h => h) (hS0) (Or.inr ⟨by kernel_rfl, rfl⟩) ?_
        simp only [List.setIfInBounds_toArray, List.set_cons_zero, List.set_cons_succ]
        refine takeH_at 25 85 undef rfl rfl (by kernel_rfl) (by kernel_rfl) (by kernel_rfl) (fun _ _ _ h => h) (hS0) (Or.inr ⟨by kernel_rfl, rfl⟩) ?_
        simp only [List.setIfInBounds_toArray, List.set_cons_zero, List.set_cons_succ]
        refine takeH_at 26 86 (.bool false) rfl rfl (by kernel_rfl) (by kernel_rfl) (by kernel_rfl) (fun _ _ _ h => h) (hS0) (Or.inl ⟨by kernel_rfl, fun w' hS' => by obtain ⟨k1, k2, k3, k4⟩ := hS'; go_simp⟩) ?_
        simp only [List.setIfInBounds_toArray, List.set_cons_zero, List.set_cons_succ]
        refine wpAnyH_done (by kernel_rfl) ?_ _
        refine NoPanic.normal ?_
        have HNX := HNO HF.out
        clear hS0
        go_wp2
        have e0 := HLT.out
        refine ⟨⟨i + 1, by omega, by first | rfl | (simp; done), HNX.out⟩, ?_⟩
        simp [intOf]
        omega
      case pos =>
      have f1 : ((((s1).1 : Nat) : Int) == (((t1).1 : Nat) : Int)) = true := by rw [eqF]; exact decide_eq_true e1
      have HE1 : Hid (s1 = t1) := e1
      clear e1
      by_cases e2 : s2 = t2
      case neg =>
        have f2 : ((((s2).1 : Nat) : Int) == (((t2).1 : Nat) : Int)) = false := by rw [eqF]; exact decide_eq_false e2
        have HF : Hid (¬ one1 l i) := fun h => e2 (HONE.out.1 h).2.1
        clear e2
        refine wp_region_noPanic ?_
        refine wp_region_held_drew (S := fun u => u.cell? ⟨S, 0, none⟩ = some (.int .u8 (s0.1 : Nat)) ∧ u.cell? ⟨S, 1, none⟩ = some (.int .u8 (s1.1 : Nat)) ∧ u.cell? ⟨S, 2, none⟩ = some (.int .u8 (s2.1 : Nat)) ∧ u.cell? ⟨S, 3, none⟩ = some (.int .u8 (s3.1 : Nat))) (by kernel_rfl) (hS0) (fun _ => ?_)
        refine takeH_at 0 60 (.pointer (some ⟨S, 1, none⟩)) rfl rfl (by kernel_rfl) (by kernel_rfl) (by kernel_rfl) (fun _ _ _ h => h) (hS0) (Or.inl ⟨by kernel_rfl, fun w' hS' => by obtain ⟨k1, k2, k3, k4⟩ := hS'; go_simp⟩) ?_
        simp only [List.setIfInBounds_toArray, List.set_cons_zero, List.set_cons_succ]
        refine takeH_at 1 61 (.int .u8 ((s1).1 : Nat)) rfl rfl (by kernel_rfl) (by kernel_rfl) (by kernel_rfl) (fun _ _ _ h => h) (hS0) (Or.inl ⟨by kernel_rfl, fun w' hS' => by obtain ⟨k1, k2, k3, k4⟩ := hS'; go_simp⟩) ?_
        simp only [List.setIfInBounds_toArray, List.set_cons_zero, List.set_cons_succ]
        refine takeH_at 2 62 (.pointer (some ⟨S, 0, none⟩)) rfl rfl (by kernel_rfl) (by kernel_rfl) (by kernel_rfl) (fun _ _ _ h => h) (hS0) (Or.inl ⟨by kernel_rfl, fun w' hS' => by obtain ⟨k1, k2, k3, k4⟩ := hS'; go_simp⟩) ?_
        simp only [List.setIfInBounds_toArray, List.set_cons_zero, List.set_cons_succ]
        refine takeH_at 3 63 (.int .u8 ((s0).1 : Nat)) rfl rfl (by kernel_rfl) (by kernel_rfl) (by kernel_rfl) (fun _ _ _ h => h) (hS0) (Or.inl ⟨by kernel_rfl, fun w' hS' => by obtain ⟨k1, k2, k3, k4⟩ := hS'; go_simp⟩) ?_
        simp only [List.setIfInBounds_toArray, List.set_cons_zero, List.set_cons_succ]
        refine takeH_at 4 64 (.int .u8 ((x).1 : Nat)) rfl rfl (by kernel_rfl) (by kernel_rfl) (by kernel_rfl) (fun _ _ _ h => h) (hS0) (Or.inl ⟨by kernel_rfl, fun w' hS' => by obtain ⟨k1, k2, k3, k4⟩ := hS'; go_simp⟩) ?_
        simp only [List.setIfInBounds_toArray, List.set_cons_zero, List.set_cons_succ]
        refine wpAnyH_ready (rs := [5]) (by kernel_rfl) (by simp) ?_
        refine AllReadyH.cons rfl (fun Kx hK => ?_) AllReadyH.nil
        rw [if_pos (by kernel_rfl)]
        go_simp
        refine (HT21.out _).1.mono ?_
        rintro e1 q1 ⟨rfl, hw1⟩
        obtain rfl := hw1.symm
        clear hw1
        go_wp2_with fail
        refine hK.out _ _ hS0 (fun _ => ?_)
        clear hK Kx
        try simp only [Act.put, List.setIfInBounds_toArray, List.set_cons_zero, List.set_cons_succ]
        refine takeH_at 6 66 (.bool true) rfl rfl (by kernel_rfl) (by kernel_rfl) (by kernel_rfl) (fun _ _ _ h => h) (hS0) (Or.inl ⟨by kernel_rfl, fun w' hS' => by obtain ⟨k1, k2, k3, k4⟩ := hS'; go_simp⟩) ?_
        simp only [List.setIfInBounds_toArray, List.set_cons_zero, List.set_cons_succ]
        refine takeH_at 7 67 (.bool true) rfl rfl (by kernel_rfl) (by kernel_rfl) (by kernel_rfl) (fun _ _ _ h => h) (hS0) (Or.inl ⟨by kernel_rfl, fun w' hS' => by obtain ⟨k1, k2, k3, k4⟩ := hS'; go_simp⟩) ?_
        simp only [List.setIfInBounds_toArray, List.set_cons_zero, List.set_cons_succ]
        refine takeH_at 8 68 (.pointer (some ⟨S, 2, none⟩)) rfl rfl (by kernel_rfl) (by kernel_rfl) (by kernel_rfl) (fun _ _ _ h => h) (hS0) (Or.inl ⟨by kernel_rfl, fun w' hS' => by obtain ⟨k1, k2, k3, k4⟩ := hS'; go_simp⟩) ?_
        simp only [List.setIfInBounds_toArray, List.set_cons_zero, List.set_cons_succ]
        refine takeH_at 9 69 (.int .u8 ((s2).1 : Nat)) rfl rfl (by kernel_rfl) (by kernel_rfl) (by kernel_rfl) (fun _ _ _ h => h) (hS0) (Or.inl ⟨by kernel_rfl, fun w' hS' => by obtain ⟨k1, k2, k3, k4⟩ := hS'; go_simp⟩) ?_
        simp only [List.setIfInBounds_toArray, List.set_cons_zero, List.set_cons_succ]
        refine takeH_at 10 70 (.pointer (some ⟨S, 0, none⟩)) rfl rfl (by kernel_rfl) (by kernel_rfl) (by kernel_rfl) (fun _ _ _ h => h) (hS0) (Or.inl ⟨by kernel_rfl, fun w' hS' => by obtain ⟨k1, k2, k3, k4⟩ := hS'; go_simp⟩) ?_
        simp only [List.setIfInBounds_toArray, List.set_cons_zero, List.set_cons_succ]
        refine takeH_at 11 71 (.int .u8 ((s0).1 : Nat)) rfl rfl (by kernel_rfl) (by kernel_rfl) (by kernel_rfl) (fun _ _ _ h => h) (hS0) (Or.inl ⟨by kernel_rfl, fun w' hS' => by obtain ⟨k1, k2, k3, k4⟩ := hS'; go_simp⟩) ?_
        simp only [List.setIfInBounds_toArray, List.set_cons_zero, List.set_cons_succ]
        refine takeH_at 12 72 (.int .u8 ((y).1 : Nat)) rfl rfl (by kernel_rfl) (by kernel_rfl) (by kernel_rfl) (fun _ _ _ h => h) (hS0) (Or.inl ⟨by kernel_rfl, fun w' hS' => by obtain ⟨k1, k2, k3, k4⟩ := hS'; go_simp⟩) ?_
        simp only [List.setIfInBounds_toArray, List.set_cons_zero, List.set_cons_succ]
        refine wpAnyH_ready (rs := [13]) (by kernel_rfl) (by simp) ?_
        refine AllReadyH.cons rfl (fun Kx hK => ?_) AllReadyH.nil
        rw [if_pos (by kernel_rfl)]
        go_simp
        refine (HT21.out _).2.1.mono ?_
        rintro e1 q1 ⟨rfl, hw1⟩
        obtain rfl := hw1.symm
        clear hw1
        go_wp2_with fail
        refine hK.out _ _ hS0 (fun _ => ?_)
        clear hK Kx
        try simp only [Act.put, List.setIfInBounds_toArray, List.set_cons_zero, List.set_cons_succ]
        refine takeH_at 14 74 (.bool false) rfl rfl (by kernel_rfl) (by kernel_rfl) (by kernel_rfl) (fun _ _ _ h => h) (hS0) (Or.inl ⟨by kernel_rfl, fun w' hS' => by obtain ⟨k1, k2, k3, k4⟩ := hS'; go_simp⟩) ?_
        simp only [List.setIfInBounds_toArray, List.set_cons_zero, List.set_cons_succ]
        refine takeH_at 15 75 (.bool false) rfl rfl (by kernel_rfl) (by kernel_rfl) (by kernel_rfl) (fun _ _ _ h => h) (hS0) (Or.inl ⟨by kernel_rfl, fun w' hS' => by obtain ⟨k1, k2, k3, k4⟩ := hS'; go_simp⟩) ?_
        simp only [List.setIfInBounds_toArray, List.set_cons_zero, List.set_cons_succ]
        refine takeH_at 16 76 (.bool false) rfl rfl (by kernel_rfl) (by kernel_rfl) (by kernel_rfl) (fun _ _ _ h => h) (hS0) (Or.inl ⟨by kernel_rfl, fun w' hS' => by obtain ⟨k1, k2, k3, k4⟩ := hS'; go_simp⟩) ?_
        simp only [List.setIfInBounds_toArray, List.set_cons_zero, List.set_cons_succ]
        refine takeH_at 17 77 undef rfl rfl (by kernel_rfl) (by kernel_rfl) (by kernel_rfl) (fun _ _ _ h => h) (hS0) (Or.inr ⟨by kernel_rfl, rfl⟩) ?_
        simp only [List.setIfInBounds_toArray, List.set_cons_zero, List.set_cons_succ]
        refine takeH_at 18 78 undef rfl rfl (by kernel_rfl) (by kernel_rfl) (by kernel_rfl) (fun _ _ _ h => h) (hS0) (Or.inr ⟨by kernel_rfl, rfl⟩) ?_
        simp only [List.setIfInBounds_toArray, List.set_cons_zero, List.set_cons_succ]
        refine takeH_at 19 79 undef rfl rfl (by kernel_rfl) (by kernel_rfl) (by kernel_rfl) (fun _ _ _ h => h) (hS0) (Or.inr ⟨by kernel_rfl, rfl⟩) ?_
        simp only [List.setIfInBounds_toArray, List.set_cons_zero, List.set_cons_succ]
        refine takeH_at 20 80 undef rfl rfl (by kernel_rfl) (by kernel_rfl) (by kernel_rfl) (fun _ _ _ h => h) (hS0) (Or.inr ⟨by kernel_rfl, rfl⟩) ?_
        simp only [List.setIfInBounds_toArray, List.set_cons_zero, List.set_cons_succ]
        refine takeH_at 21 81 undef rfl rfl (by kernel_rfl) (by kernel_rfl) (by kernel_rfl) (fun _ _ _ h => h) (hS0) (Or.inr ⟨by kernel_rfl, rfl⟩) ?_
        simp only [List.setIfInBounds_toArray, List.set_cons_zero, List.set_cons_succ]
        refine takeH_at 22 82 undef rfl rfl (by kernel_rfl) (by kernel_rfl) (by kernel_rfl) (fun _ _ _ h => h) (hS0) (Or.inr ⟨by kernel_rfl, rfl⟩) ?_
        simp only [List.setIfInBounds_toArray, List.set_cons_zero, List.set_cons_succ]
        refine takeH_at 23 83 undef rfl rfl (by kernel_rfl) (by kernel_rfl) (by kernel_rfl) (fun _ _ _ h => h) (hS0) (Or.inr ⟨by kernel_rfl, rfl⟩) ?_
        simp only [List.setIfInBounds_toArray, List.set_cons_zero, List.set_cons_succ]
        refine takeH_at 24 84 undef rfl rfl (by kernel_rfl) (by kernel_rfl) (by kernel_rfl) (fun _ _ _ h => h) (hS0) (Or.inr ⟨by kernel_rfl, rfl⟩) ?_
        simp only [List.setIfInBounds_toArray, List.set_cons_zero, List.set_cons_succ]
        refine takeH_at 25 85 undef rfl rfl (by kernel_rfl) (by kernel_rfl) (by kernel_rfl) (fun _ _ _ h => h) (hS0) (Or.inr ⟨by kernel_rfl, rfl⟩) ?_
        simp only [List.setIfInBounds_toArray, List.set_cons_zero, List.set_cons_succ]
        refine takeH_at 26 86 (.bool false) rfl rfl (by kernel_rfl) (by kernel_rfl) (by kernel_rfl) (fun _ _ _ h => h) (hS0) (Or.inl ⟨by kernel_rfl, fun w' hS' => by obtain ⟨k1, k2, k3, k4⟩ := hS'; go_simp⟩) ?_
        simp only [List.setIfInBounds_toArray, List.set_cons_zero, List.set_cons_succ]
        refine wpAnyH_done (by kernel_rfl) ?_ _
        refine NoPanic.normal ?_
        have HNX := HNO HF.out
        clear hS0
        go_wp2
        have e0 := HLT.out
        refine ⟨⟨i + 1, by omega, by first | rfl | (simp; done), HNX.out⟩, ?_⟩
        simp [intOf]
        omega
      case pos =>
      have f2 : ((((s2).1 : Nat) : Int) == (((t2).1 : Nat) : Int)) = true := by rw [eqF]; exact decide_eq_true e2
      have HE2 : Hid (s2 = t2) := e2
      clear e2
      by_cases e3 : s3 = t3
      case neg =>
        have f3 : ((((s3).1 : Nat) : Int) == (((t3).1 : Nat) : Int)) = false := by rw [eqF]; exact decide_eq_false e3
        have HF : Hid (¬ one1 l i) := fun h => e3 (HONE.out.1 h).2.2
        clear e3
        refine wp_region_noPanic ?_
        refine wp_region_held_drew (S := fun u => u.cell? ⟨S, 0, none⟩ = some (.int .u8 (s0.1 : Nat)) ∧ u.cell? ⟨S, 1, none⟩ = some (.int .u8 (s1.1 : Nat)) ∧ u.cell? ⟨S, 2, none⟩ = some (.int .u8 (s2.1 : Nat)) ∧ u.cell? ⟨S, 3, none⟩ = some (.int .u8 (s3.1 : Nat))) (by kernel_rfl) (hS0) (fun _ => ?_)
        refine takeH_at 0 60 (.pointer (some ⟨S, 1, none⟩)) rfl rfl (by kernel_rfl) (by kernel_rfl) (by kernel_rfl) (fun _ _ _ h => h) (hS0) (Or.inl ⟨by kernel_rfl, fun w' hS' => by obtain ⟨k1, k2, k3, k4⟩ := hS'; go_simp⟩) ?_
        simp only [List.setIfInBounds_toArray, List.set_cons_zero, List.set_cons_succ]
        refine takeH_at 1 61 (.int .u8 ((s1).1 : Nat)) rfl rfl (by kernel_rfl) (by kernel_rfl) (by kernel_rfl) (fun _ _ _ h => h) (hS0) (Or.inl ⟨by kernel_rfl, fun w' hS' => by obtain ⟨k1, k2, k3, k4⟩ := hS'; go_simp⟩) ?_
        simp only [List.setIfInBounds_toArray, List.set_cons_zero, List.set_cons_succ]
        refine takeH_at 2 62 (.pointer (some ⟨S, 0, none⟩)) rfl rfl (by kernel_rfl) (by kernel_rfl) (by kernel_rfl) (fun _ _ _ h => h) (hS0) (Or.inl ⟨by kernel_rfl, fun w' hS' => by obtain ⟨k1, k2, k3, k4⟩ := hS'; go_simp⟩) ?_
        simp only [List.setIfInBounds_toArray, List.set_cons_zero, List.set_cons_succ]
        refine takeH_at 3 63 (.int .u8 ((s0).1 : Nat)) rfl rfl (by kernel_rfl) (by kernel_rfl) (by kernel_rfl) (fun _ _ _ h => h) (hS0) (Or.inl ⟨by kernel_rfl, fun w' hS' => by obtain ⟨k1, k2, k3, k4⟩ := hS'; go_simp⟩) ?_
        simp only [List.setIfInBounds_toArray, List.set_cons_zero, List.set_cons_succ]
        refine takeH_at 4 64 (.int .u8 ((x).1 : Nat)) rfl rfl (by kernel_rfl) (by kernel_rfl) (by kernel_rfl) (fun _ _ _ h => h) (hS0) (Or.inl ⟨by kernel_rfl, fun w' hS' => by obtain ⟨k1, k2, k3, k4⟩ := hS'; go_simp⟩) ?_
        simp only [List.setIfInBounds_toArray, List.set_cons_zero, List.set_cons_succ]
        refine wpAnyH_ready (rs := [5]) (by kernel_rfl) (by simp) ?_
        refine AllReadyH.cons rfl (fun Kx hK => ?_) AllReadyH.nil
        rw [if_pos (by kernel_rfl)]
        go_simp
        refine (HT21.out _).1.mono ?_
        rintro e1 q1 ⟨rfl, hw1⟩
        obtain rfl := hw1.symm
        clear hw1
        go_wp2_with fail
        refine hK.out _ _ hS0 (fun _ => ?_)
        clear hK Kx
        try simp only [Act.put, List.setIfInBounds_toArray, List.set_cons_zero, List.set_cons_succ]
        refine takeH_at 6 66 (.bool true) rfl rfl (by kernel_rfl) (by kernel_rfl) (by kernel_rfl) (fun _ _ _ h => h) (hS0) (Or.inl ⟨by kernel_rfl, fun w' hS' => by obtain ⟨k1, k2, k3, k4⟩ := hS'; go_simp⟩) ?_
        simp only [List.setIfInBounds_toArray, List.set_cons_zero, List.set_cons_succ]
        refine takeH_at 7 67 (.bool true) rfl rfl (by kernel_rfl) (by kernel_rfl) (by kernel_rfl) (fun _ _ _ h => h) (hS0) (Or.inl ⟨by kernel_rfl, fun w' hS' => by obtain ⟨k1, k2, k3, k4⟩ := hS'; go_simp⟩) ?_
        simp only [List.setIfInBounds_toArray, List.set_cons_zero, List.set_cons_succ]
        refine takeH_at 8 68 (.pointer (some ⟨S, 2, none⟩)) rfl rfl (by kernel_rfl) (by kernel_rfl) (by kernel_rfl) (fun _ _ _ h => h) (hS0) (Or.inl ⟨by kernel_rfl, fun w' hS' => by obtain ⟨k1, k2, k3, k4⟩ := hS'; go_simp⟩) ?_
        simp only [List.setIfInBounds_toArray, List.set_cons_zero, List.set_cons_succ]
        refine takeH_at 9 69 (.int .u8 ((s2).1 : Nat)) rfl rfl (by kernel_rfl) (by kernel_rfl) (by kernel_rfl) (fun _ _ _ h => h) (hS0) (Or.inl ⟨by kernel_rfl, fun w' hS' => by obtain ⟨k1, k2, k3, k4⟩ := hS'; go_simp⟩) ?_
        simp only [List.setIfInBounds_toArray, List.set_cons_zero, List.set_cons_succ]
        refine takeH_at 10 70 (.pointer (some ⟨S, 0, none⟩)) rfl rfl (by kernel_rfl) (by kernel_rfl) (by kernel_rfl) (fun _ _ _ h => h) (hS0) (Or.inl ⟨by kernel_rfl, fun w' hS' => by obtain ⟨k1, k2, k3, k4⟩ := hS'; go_simp⟩) ?_
        simp only [List.setIfInBounds_toArray, List.set_cons_zero, List.set_cons_succ]
        refine takeH_at 11 71 (.int .u8 ((s0).1 : Nat)) rfl rfl (by kernel_rfl) (by kernel_rfl) (by kernel_rfl) (fun _ _ _ h => h) (hS0) (Or.inl ⟨by kernel_rfl, fun w' hS' => by obtain ⟨k1, k2, k3, k4⟩ := hS'; go_simp⟩) ?_
        simp only [List.setIfInBounds_toArray, List.set_cons_zero, List.set_cons_succ]
        refine takeH_at 12 72 (.int .u8 ((y).1 : Nat)) rfl rfl (by kernel_rfl) (by kernel_rfl) (by kernel_rfl) (fun _ _ _ h => h) (hS0) (Or.inl ⟨by kernel_rfl, fun w' hS' => by obtain ⟨k1, k2, k3, k4⟩ := hS'; go_simp⟩) ?_
        simp only [List.setIfInBounds_toArray, List.set_cons_zero, List.set_cons_succ]
        refine wpAnyH_ready (rs := [13]) (by kernel_rfl) (by simp) ?_
        refine AllReadyH.cons rfl (fun Kx hK => ?_) AllReadyH.nil
        rw [if_pos (by kernel_rfl)]
        go_simp
        refine (HT21.out _).2.1.mono ?_
        rintro e1 q1 ⟨rfl, hw1⟩
        obtain rfl := hw1.symm
        clear hw1
        go_wp2_with fail
        refine hK.out _ _ hS0 (fun _ => ?_)
        clear hK Kx
        try simp only [Act.put, List.setIfInBounds_toArray, List.set_cons_zero, List.set_cons_succ]
        refine takeH_at 14 74 (.bool true) rfl rfl (by kernel_rfl) (by kernel_rfl) (by kernel_rfl) (fun _ _ _ h => h) (hS0) (Or.inl ⟨by kernel_rfl, fun w' hS' => by obtain ⟨k1, k2, k3, k4⟩ := hS'; go_simp⟩) ?_
        simp only [List.setIfInBounds_toArray, List.set_cons_zero, List.set_cons_succ]
        refine takeH_at 15 75 (.bool true) rfl rfl (by kernel_rfl) (by kernel_rfl) (by kernel_rfl) (fun _ _ _ h => h) (hS0) (Or.inl ⟨by kernel_rfl, fun w' hS' => by obtain ⟨k1, k2, k3, k4⟩ := hS'; go_simp⟩) ?_
        simp only [List.setIfInBounds_toArray, List.set_cons_zero, List.set_cons_succ]
        refine takeH_at 16 76 (.bool true) rfl rfl (by kernel_rfl) (by kernel_rfl) (by kernel_rfl) (fun _ _ _ h => h) (hS0) (Or.inl ⟨by kernel_rfl, fun w' hS' => by obtain ⟨k1, k2, k3, k4⟩ := hS'; go_simp⟩) ?_
        simp only [List.setIfInBounds_toArray, List.set_cons_zero, List.set_cons_succ]
        refine takeH_at 17 77 (.pointer (some ⟨S, 3, none⟩)) rfl rfl (by kernel_rfl) (by kernel_rfl) (by kernel_rfl) (fun _ _ _ h => h) (hS0) (Or.inl ⟨by kernel_rfl, fun w' hS' => by obtain ⟨k1, k2, k3, k4⟩ := hS'; go_simp⟩) ?_
        simp only [List.setIfInBounds_toArray, List.set_cons_zero, List.set_cons_succ]
        refine takeH_at 18 78 (.int .u8 ((s3).1 : Nat)) rfl rfl (by kernel_rfl) (by kernel_rfl) (by kernel_rfl) (fun _ _ _ h => h) (hS0) (Or.inl ⟨by kernel_rfl, fun w' hS' => by obtain ⟨k1, k2, k3, k4⟩ := hS'; go_simp⟩) ?_
        simp only [List.setIfInBounds_toArray, List.set_cons_zero, List.set_cons_succ]
        refine takeH_at 19 79 (.pointer (some ⟨S, 0, none⟩)) rfl rfl (by kernel_rfl) (by kernel_rfl) (by kernel_rfl) (fun _ _ _ h => h) (hS0) (Or.inl ⟨by kernel_rfl, fun w' hS' => by obtain ⟨k1, k2, k3, k4⟩ := hS'; go_simp⟩) ?_
        simp only [List.setIfInBounds_toArray, List.set_cons_zero, List.set_cons_succ]
        refine takeH_at 20 80 (.int .u8 ((s0).1 : Nat)) rfl rfl (by kernel_rfl) (by kernel_rfl) (by kernel_rfl) (fun _ _ _ h => h) (hS0) (Or.inl ⟨by kernel_rfl, fun w' hS' => by obtain ⟨k1, k2, k3, k4⟩ := hS'; go_simp⟩) ?_
        simp only [List.setIfInBounds_toArray, List.set_cons_zero, List.set_cons_succ]
        refine takeH_at 21 81 (.int .u8 ((x).1 : Nat)) rfl rfl (by kernel_rfl) (by kernel_rfl) (by kernel_rfl) (fun _ _ _ h => h) (hS0) (Or.inl ⟨by kernel_rfl, fun w' hS' => by obtain ⟨k1, k2, k3, k4⟩ := hS'; go_simp⟩) ?_
        simp only [List.setIfInBounds_toArray, List.set_cons_zero, List.set_cons_succ]
        refine takeH_at 22 82 (.int .u8 ((y).1 : Nat)) rfl rfl (by kernel_rfl) (by kernel_rfl) (by kernel_rfl) (fun _ _ _ h => h) (hS0) (Or.inl ⟨by kernel_rfl, fun w' hS' => by obtain ⟨k1, k2, k3, k4⟩ := hS'; go_simp⟩) ?_
        simp only [List.setIfInBounds_toArray, List.set_cons_zero, List.set_cons_succ]
        refine wpAnyH_ready (rs := [23]) (by kernel_rfl) (by simp) ?_
        refine AllReadyH.cons rfl (fun Kx hK => ?_) AllReadyH.nil
        rw [if_pos (by kernel_rfl)]
        go_simp
        refine (HT21.out _).2.2.1.mono ?_
        rintro e1 q1 ⟨rfl, hw1⟩
        obtain rfl := hw1.symm
        clear hw1
        go_wp2_with fail
        refine hK.out _ _ hS0 (fun _ => ?_)
        clear hK Kx
        try simp only [Act.put, List.setIfInBounds_toArray, List.set_cons_zero, List.set_cons_succ]
        refine wpAnyH_ready (rs := [24]) (by kernel_rfl) (by simp) ?_
        refine AllReadyH.cons rfl (fun Kx hK => ?_) AllReadyH.nil
        rw [if_pos (by kernel_rfl)]
        go_simp
        refine (HT21.out _).2.2.2.mono ?_
        rintro e1 q1 ⟨rfl, hw1⟩
        obtain rfl := hw1.symm
        clear hw1
        go_wp2_with fail
        refine hK.out _ _ hS0 (fun _ => ?_)
        clear hK Kx
        try simp only [Act.put, List.setIfInBounds_toArray, List.set_cons_zero, List.set_cons_succ]
        refine takeH_at 25 85 (.bool false) rfl rfl (by kernel_rfl) (by kernel_rfl) (by kernel_rfl) (fun _ _ _ h => h) (hS0) (Or.inl ⟨by kernel_rfl, fun w' hS' => by obtain ⟨k1, k2, k3, k4⟩ := hS'; go_simp⟩) ?_
        simp only [List.setIfInBounds_toArray, List.set_cons_zero, List.set_cons_succ]
        refine takeH_at 26 86 (.bool false) rfl rfl (by kernel_rfl) (by kernel_rfl) (by kernel_rfl) (fun _ _ _ h => h) (hS0) (Or.inl ⟨by kernel_rfl, fun w' hS' => by obtain ⟨k1, k2, k3, k4⟩ := hS'; go_simp⟩) ?_
        simp only [List.setIfInBounds_toArray, List.set_cons_zero, List.set_cons_succ]
        refine wpAnyH_done (by kernel_rfl) ?_ _
        refine NoPanic.normal ?_
        have HNX := HNO HF.out
        clear hS0
        go_wp2
        have e0 := HLT.out
        refine ⟨⟨i + 1, by omega, by first | rfl | (simp; done), HNX.out⟩, ?_⟩
        simp [intOf]
        omega
      case pos =>
      have f3 : ((((s3).1 : Nat) : Int) == (((t3).1 : Nat) : Int)) = true := by rw [eqF]; exact decide_eq_true e3
      have HO : Hid (one1 l i) := HONE.out.2 ⟨HE1.out, HE2.out, e3⟩
      clear e3
      refine wp_region_noPanic ?_
      refine wp_region_held_drew (S := fun u => u.cell? ⟨S, 0, none⟩ = some (.int .u8 (s0.1 : Nat)) ∧ u.cell? ⟨S, 1, none⟩ = some (.int .u8 (s1.1 : Nat)) ∧ u.cell? ⟨S, 2, none⟩ = some (.int .u8 (s2.1 : Nat)) ∧ u.cell? ⟨S, 3, none⟩ = some (.int .u8 (s3.1 : Nat))) (by kernel_rfl) (hS0) (fun _ => ?_)
      refine takeH_at 0 60 (.pointer (some ⟨S, 1, none⟩)) rfl rfl (by kernel_rfl) (by kernel_rfl) (by kernel_rfl) (fun _ _ _ h => h) (hS0) (Or.inl ⟨by kernel_rfl, fun w' hS' => by obtain ⟨k1, k2, k3, k4⟩ := hS'; go_simp⟩) ?_
      simp only [List.setIfInBounds_toArray, List.set_cons_zero, List.set_cons_succ]
      refine takeH_at 1 61 (.int .u8 ((s1).1 : Nat)) rfl rfl (by kernel_rfl) (by kernel_rfl) (by kernel_rfl) (fun _ _ _ h => h) (hS0) (Or.inl ⟨by kernel_rfl, fun w' hS' => by obtain ⟨k1, k2, k3, k4⟩ := hS'; go_simp⟩) ?_
      simp only [List.setIfInBounds_toArray, List.set_cons_zero, List.set_cons_succ]
      refine takeH_at 2 62 (.pointer (some ⟨S, 0, none⟩)) rfl rfl (by kernel_rfl) (by kernel_rfl) (by kernel_rfl) (fun _ _ _ h => h) (hS0) (Or.inl ⟨by kernel_rfl, fun w' hS' => by obtain ⟨k1, k2, k3, k4⟩ := hS'; go_simp⟩) ?_
      simp only [List.setIfInBounds_toArray, List.set_cons_zero, List.set_cons_succ]
      refine takeH_at 3 63 (.int .u8 ((s0).1 : Nat)) rfl rfl (by kernel_rfl) (by kernel_rfl) (by kernel_rfl) (fun _ _ _ h => h) (hS0) (Or.inl ⟨by kernel_rfl, fun w' hS' => by obtain ⟨k1, k2, k3, k4⟩ := hS'; go_simp⟩) ?_
      simp only [List.setIfInBounds_toArray, List.set_cons_zero, List.set_cons_succ]
      refine takeH_at 4 64 (.int .u8 ((x).1 : Nat)) rfl rfl (by kernel_rfl) (by kernel_rfl) (by kernel_rfl) (fun _ _ _ h => h) (hS0) (Or.inl ⟨by kernel_rfl, fun w' hS' => by obtain ⟨k1, k2, k3, k4⟩ := hS'; go_simp⟩) ?_
      simp only [List.setIfInBounds_toArray, List.set_cons_zero, List.set_cons_succ]
      refine wpAnyH_ready (rs := [5]) (by kernel_rfl) (by simp) ?_
      refine AllReadyH.cons rfl (fun Kx hK => ?_) AllReadyH.nil
      rw [if_pos (by kernel_rfl)]
      go_simp
      refine (HT21.out _).1.mono ?_
      rintro e1 q1 ⟨rfl, hw1⟩
      obtain rfl := hw1.symm
      clear hw1
      go_wp2_with fail
      refine hK.out _ _ hS0 (fun _ => ?_)
      clear hK Kx
      try simp only [Act.put, List.setIfInBounds_toArray, List.set_cons_zero, List.set_cons_succ]
      refine takeH_at 6 66 (.bool true) rfl rfl (by kernel_rfl) (by kernel_rfl) (by kernel_rfl) (fun _ _ _ h => h) (hS0) (Or.inl ⟨by kernel_rfl, fun w' hS' => by obtain ⟨k1, k2, k3, k4⟩ := hS'; go_simp⟩) ?_
      simp only [List.setIfInBounds_toArray, List.set_cons_zero, List.set_cons_succ]
      refine takeH_at 7 67 (.bool true) rfl rfl (by kernel_rfl) (by kernel_rfl) (by kernel_rfl) (fun _ _ _ h => h) (hS0) (Or.inl ⟨by kernel_rfl, fun w' hS' => by obtain ⟨k1, k2, k3, k4⟩ := hS'; go_simp⟩) ?_
      simp only [List.setIfInBounds_toArray, List.set_cons_zero, List.set_cons_succ]
      refine takeH_at 8 68 (.pointer (some ⟨S, 2, none⟩)) rfl rfl (by kernel_rfl) (by kernel_rfl) (by kernel_rfl) (fun _ _ _ h => h) (hS0) (Or.inl ⟨by kernel_rfl, fun w' hS' => by obtain ⟨k1, k2, k3, k4⟩ := hS'; go_simp⟩) ?_
      simp only [List.setIfInBounds_toArray, List.set_cons_zero, List.set_cons_succ]
      refine takeH_at 9 69 (.int .u8 ((s2).1 : Nat)) rfl rfl (by kernel_rfl) (by kernel_rfl) (by kernel_rfl) (fun _ _ _ h => h) (hS0) (Or.inl ⟨by kernel_rfl, fun w' hS' => by obtain ⟨k1, k2, k3, k4⟩ := hS'; go_simp⟩) ?_
      simp only [List.setIfInBounds_toArray, List.set_cons_zero, List.set_cons_succ]
      refine takeH_at 10 70 (.pointer (some ⟨S, 0, none⟩)) rfl rfl (by kernel_rfl) (by kernel_rfl) (by kernel_rfl) (fun _ _ _ h => h) (hS0) (Or.inl ⟨by kernel_rfl, fun w' hS' => by obtain ⟨k1, k2, k3, k4⟩ := hS'; go_simp⟩) ?_
      simp only [List.setIfInBounds_toArray, List.set_cons_zero, List.set_cons_succ]
      refine takeH_at 11 71 (.int .u8 ((s0).1 : Nat)) rfl rfl (by kernel_rfl) (by kernel_rfl) (by kernel_rfl) (fun _ _ _ h => h) (hS0) (Or.inl ⟨by kernel_rfl, fun w' hS' => by obtain ⟨k1, k2, k3, k4⟩ := hS'; go_simp⟩) ?_
      simp only [List.setIfInBounds_toArray, List.set_cons_zero, List.set_cons_succ]
      refine takeH_at 12 72 (.int .u8 ((y).1 : Nat)) rfl rfl (by kernel_rfl) (by kernel_rfl) (by kernel_rfl) (fun _ _ _ h => h) (hS0) (Or.inl ⟨by kernel_rfl, fun w' hS' => by obtain ⟨k1, k2, k3, k4⟩ := hS'; go_simp⟩) ?_
      simp only [List.setIfInBounds_toArray, List.set_cons_zero, List.set_cons_succ]
      refine wpAnyH_ready (rs := [13]) (by kernel_rfl) (by simp) ?_
      refine AllReadyH.cons rfl (fun Kx hK => ?_) AllReadyH.nil
      rw [if_pos (by kernel_rfl)]
      go_simp
      refine (HT21.out _).2.1.mono ?_
      rintro e1 q1 ⟨rfl, hw1⟩
      obtain rfl := hw1.symm
      clear hw1
      go_wp2_with fail
      refine hK.out _ _ hS0 (fun _ => ?_)
      clear hK Kx
      try simp only [Act.put, List.setIfInBounds_toArray, List.set_cons_zero, List.set_cons_succ]
      refine takeH_at 14 74 (.bool true) rfl rfl (by kernel_rfl) (by kernel_rfl) (by kernel_rfl) (fun _ _ _ h => h) (hS0) (Or.inl ⟨by kernel_rfl, fun w' hS' => by obtain ⟨k1, k2, k3, k4⟩ := hS'; go_simp⟩) ?_
      simp only [List.setIfInBounds_toArray, List.set_cons_zero, List.set_cons_succ]
      refine takeH_at 15 75 (.bool true) rfl rfl (by kernel_rfl) (by kernel_rfl) (by kernel_rfl) (fun _ _ _ h => h) (hS0) (Or.inl ⟨by kernel_rfl, fun w' hS' => by obtain ⟨k1, k2, k3, k4⟩ := hS'; go_simp⟩) ?_
      simp only [List.setIfInBounds_toArray, List.set_cons_zero, List.set_cons_succ]
      refine takeH_at 16 76 (.bool true) rfl rfl (by kernel_rfl) (by kernel_rfl) (by kernel_rfl) (fun _ _ _ h => h) (hS0) (Or.inl ⟨by kernel_rfl, fun w' hS' => by obtain ⟨k1, k2, k3, k4⟩ := hS'; go_simp⟩) ?_
      simp only [List.setIfInBounds_toArray, List.set_cons_zero, List.set_cons_succ]
      refine takeH_at 17 77 (.pointer (some ⟨S, 3, none⟩)) rfl rfl (by kernel_rfl) (by kernel_rfl) (by kernel_rfl) (fun _ _ _ h => h) (hS0) (Or.inl ⟨by kernel_rfl, fun w' hS' => by obtain ⟨k1, k2, k3, k4⟩ := hS'; go_simp⟩) ?_
      simp only [List.setIfInBounds_toArray, List.set_cons_zero, List.set_cons_succ]
      refine takeH_at 18 78 (.int .u8 ((s3).1 : Nat)) rfl rfl (by kernel_rfl) (by kernel_rfl) (by kernel_rfl) (fun _ _ _ h => h) (hS0) (Or.inl ⟨by kernel_rfl, fun w' hS' => by obtain ⟨k1, k2, k3, k4⟩ := hS'; go_simp⟩) ?_
      simp only [List.setIfInBounds_toArray, List.set_cons_zero, List.set_cons_succ]
      refine takeH_at 19 79 (.pointer (some ⟨S, 0, none⟩)) rfl rfl (by kernel_rfl) (by kernel_rfl) (by kernel_rfl) (fun _ _ _ h => h) (hS0) (Or.inl ⟨by kernel_rfl, fun w' hS' => by obtain ⟨k1, k2, k3, k4⟩ := hS'; go_simp⟩) ?_
      simp only [List.setIfInBounds_toArray, List.set_cons_zero, List.set_cons_succ]
      refine takeH_at 20 80 (.int .u8 ((s0).1 : Nat)) rfl rfl (by kernel_rfl) (by kernel_rfl) (by kernel_rfl) (fun _ _ _ h => h) (hS0) (Or.inl ⟨by kernel_rfl, fun w' hS' => by obtain ⟨k1, k2, k3, k4⟩ := hS'; go_simp⟩) ?_
      simp only [List.setIfInBounds_toArray, List.set_cons_zero, List.set_cons_succ]
      refine takeH_at 21 81 (.int .u8 ((x).1 : Nat)) rfl rfl (by kernel_rfl) (by kernel_rfl) (by kernel_rfl) (fun _ _ _ h => h) (hS0) (Or.inl ⟨by kernel_rfl, fun w' hS' => by obtain ⟨k1, k2, k3, k4⟩ := hS'; go_simp⟩) ?_
      simp only [List.setIfInBounds_toArray, List.set_cons_zero, List.set_cons_succ]
      refine takeH_at 22 82 (.int .u8 ((y).1 : Nat)) rfl rfl (by kernel_rfl) (by kernel_rfl) (by kernel_rfl) (fun _ _ _ h => h) (hS0) (Or.inl ⟨by kernel_rfl, fun w' hS' => by obtain ⟨k1, k2, k3, k4⟩ := hS'; go_simp⟩) ?_
      simp only [List.setIfInBounds_toArray, List.set_cons_zero, List.set_cons_succ]
      refine wpAnyH_ready (rs := [23]) (by kernel_rfl) (by simp) ?_
      refine AllReadyH.cons rfl (fun Kx hK => ?_) AllReadyH.nil
      rw [if_pos (by kernel_rfl)]
      go_simp
      refine (HT21.out _).2.2.1.mono ?_
      rintro e1 q1 ⟨rfl, hw1⟩
      obtain rfl := hw1.symm
      clear hw1
      go_wp2_with fail
      refine hK.out _ _ hS0 (fun _ => ?_)
      clear hK Kx
      try simp only [Act.put, List.setIfInBounds_toArray, List.set_cons_zero, List.set_cons_succ]
      refine wpAnyH_ready (rs := [24]) (by kernel_rfl) (by simp) ?_
      refine AllReadyH.cons rfl (fun Kx hK => ?_) AllReadyH.nil
      rw [if_pos (by kernel_rfl)]
      go_simp
      refine (HT21.out _).2.2.2.mono ?_
      rintro e1 q1 ⟨rfl, hw1⟩
      obtain rfl := hw1.symm
      clear hw1
      go_wp2_with fail
      refine hK.out _ _ hS0 (fun _ => ?_)
      clear hK Kx
      try simp only [Act.put, List.setIfInBounds_toArray, List.set_cons_zero, List.set_cons_succ]
      refine takeH_at 25 85 (.bool true) rfl rfl (by kernel_rfl) (by kernel_rfl) (by kernel_rfl) (fun _ _ _ h => h) (hS0) (Or.inl ⟨by kernel_rfl, fun w' hS' => by obtain ⟨k1, k2, k3, k4⟩ := hS'; go_simp⟩) ?_
      simp only [List.setIfInBounds_toArray, List.set_cons_zero, List.set_cons_succ]
      refine takeH_at 26 86 (.bool true) rfl rfl (by kernel_rfl) (by kernel_rfl) (by kernel_rfl) (fun _ _ _ h => h) (hS0) (Or.inl ⟨by kernel_rfl, fun w' hS' => by obtain ⟨k1, k2, k3, k4⟩ := hS'; go_simp⟩) ?_
      simp only [List.setIfInBounds_toArray, List.set_cons_zero, List.set_cons_succ]
      refine wpAnyH_done (by kernel_rfl) ?_ _
      refine NoPanic.normal ?_
      have HNE := one_near l (by rw [HN.out.1]; exact HN.out.2.2.1) (by have := HN.out; omega) HNZ.out i (by rw [HN.out.1]; exact HLT.out) HO.out
      rw [HN.out.1, HLI.out, Hs0.out, HRI.out] at HNE
      have HNE2 : Hid (Nr l (l.set i ri) ∧ dif (l.set i ri) l n = 1 ∧ s0 ≠ 0) := HNE
      have f4 : ((((s0).1 : Nat) : Int) != 0) = true := by have := neF s0 0; rw [decide_eq_false HNE2.out.2.2] at this; exact this
      clear HNE
      have HQ : Hid (NearQ l n M (.returned (.tuple #[.slice (some ⟨g, 0, none⟩) n c', .int .i64 1, .bool true])) w w2.drew.drew) := by
        refine ⟨Or.inl ⟨g, 0, c', _, ?_, HNE2.out.1, HG.out.1, ?_, ?_⟩, HW.out.1.bel.drew.drew⟩
        · rw [HNE2.out.2.1]; rfl
        · exact HW.out.2.1
        · exact HW.out.2.2
      have hS1 : w2.drew.drew.cell? ⟨S, 0, none⟩ = some (.int .u8 (s0.1 : Nat)) := hS0.1
      clear hS0
      go_upto_region 15 with fail
      refine wp_region_noPanic ?_
      refine wp_region_held_drew (S := fun u => u.cell? ⟨S, 0, none⟩ = some (.int .u8 (s0.1 : Nat))) (by kernel_rfl) (hS1) (fun _ => ?_)
      refine takeH_at 0 87 (.slice (some ⟨g, 0, none⟩) n c') rfl rfl (by kernel_rfl) (by kernel_rfl) (by kernel_rfl) (fun _ _ _ h => h) (hS1) (Or.inl ⟨by kernel_rfl, fun w' hS' => by go_simp⟩) ?_
      simp only [List.setIfInBounds_toArray, List.set_cons_zero, List.set_cons_succ]
      refine takeH_at 1 88 (.pointer (some ⟨S, 0, none⟩)) rfl rfl (by kernel_rfl) (by kernel_rfl) (by kernel_rfl) (fun _ _ _ h => h) (hS1) (Or.inl ⟨by kernel_rfl, fun w' hS' => by go_simp⟩) ?_
      simp only [List.setIfInBounds_toArray, List.set_cons_zero, List.set_cons_succ]
      refine takeH_at 2 89 (.int .u8 ((s0).1 : Nat)) rfl rfl (by kernel_rfl) (by kernel_rfl) (by kernel_rfl) (fun _ _ _ h => h) (hS1) (Or.inl ⟨by kernel_rfl, fun w' hS' => by go_simp⟩) ?_
      simp only [List.setIfInBounds_toArray, List.set_cons_zero, List.set_cons_succ]
      refine takeH_at 3 90 (.bool true) rfl rfl (by kernel_rfl) (by kernel_rfl) (by kernel_rfl) (fun _ _ _ h => h) (hS1) (Or.inl ⟨by kernel_rfl, fun w' hS' => by go_simp⟩) ?_
      simp only [List.setIfInBounds_toArray, List.set_cons_zero, List.set_cons_succ]
      refine takeH_at 4 2 (.slice (some ⟨g, 0, none⟩) n c') rfl rfl (by kernel_rfl) (by kernel_rfl) (by kernel_rfl) (fun _ _ _ h => h) (hS1) (Or.inl ⟨by kernel_rfl, fun w' hS' => by go_simp⟩) ?_
      simp only [List.setIfInBounds_toArray, List.set_cons_zero, List.set_cons_succ]
      refine takeH_at 5 3 (.int .i64 1) rfl rfl (by kernel_rfl) (by kernel_rfl) (by kernel_rfl) (fun _ _ _ h => h) (hS1) (Or.inl ⟨by kernel_rfl, fun w' hS' => by go_simp⟩) ?_
      simp only [List.setIfInBounds_toArray, List.set_cons_zero, List.set_cons_succ]
      refine takeH_at 6 4 (.bool true) rfl rfl (by kernel_rfl) (by kernel_rfl) (by kernel_rfl) (fun _ _ _ h => h) (hS1) (Or.inl ⟨by kernel_rfl, fun w' hS' => by go_simp⟩) ?_
      simp only [List.setIfInBounds_toArray, List.set_cons_zero, List.set_cons_succ]
      refine wpAnyH_done (by kernel_rfl) ?_ _
      refine NoPanic.normal ?_
      go_wp2
      go_ret3
      rw [HMM.out]
      exact HQ.out
    · obtain rfl : n = i := by omega
      have g2 : ¬ (n : Int) < (n : Int) := Int.lt_irrefl _
      have HNO1 : Hid (∀ q, q < n → ¬ one1 l q) := HI.out.2
      have HI1 : Hid (NeI M S p b off l w wr) := HI.out.1
      clear HI hlt hi
      have hzv := zv55
      go_upto_region 17 with fail
      obtain ⟨V, HV⟩ : ∃ V, Hid (wr.heap.size = V) := ⟨_, rfl⟩
      obtain ⟨w5, hw5⟩ : ∃ u, u = wr.alloc (.cells zc55 55) := ⟨_, rfl⟩
      have HI2 : Hid (NeI M S p b off l w w5 ∧ InvT w5 V 0) := by
        rw [hw5, ← HV.out]
        exact ⟨HI1.out.below ((Below.refl _ _).alloc (Nat.le_refl _) _), InvT.new wr⟩
      have HVV : Hid (b < V ∧ S < V ∧ p < V ∧ M ≤ V) := by
        rw [← HV.out]
        exact ⟨HI1.out.hb, HI1.out.bs.lt, World.block_lt_of_cell? _ _ (HI1.out.pw 0 (by decide)), HI1.out.hm⟩
      rw [← hw5, HV.out]
      clear hw5 HI1 hzv
      go_wp2
      go_loopw [14] (fun vq wq => ∃ q : Nat, q ≤ 255 ∧ vq = .int .i64 (q : Nat) ∧ Hid (NeI M S p b off l w wq ∧ InvT wq V q)) (fun vq _ => 255 - (intOf vq).toNat)
      case atStart => exact ⟨0, by omega, rfl, HI2.out⟩
      case round =>
        obtain ⟨q, hq, rfl, HJ⟩ := hrel
        clear HI2
        by_cases hlt : q < 255
        · have HLT : Hid (q < 255) := hlt
          have g1 : (q : Int) < 255 := by omega
          have g0 : (0 : Int) ≤ (q : Int) := by omega
          obtain ⟨A, HA⟩ : ∃ A, Hid (255 - q = A) := ⟨_, rfl⟩
          obtain ⟨B, HB⟩ : ∃ B, Hid (A % 255 = B) := ⟨_, rfl⟩
          obtain ⟨b1, b2, b3, b4, b5, b6, b7⟩ := inv_num q A B hlt HA.out HB.out
          obtain ⟨z, Hz⟩ : ∃ z : F, Hid (Em q = z) := ⟨_, rfl⟩
          obtain ⟨y, Hy⟩ : ∃ z : F, Hid (Em B = z) := ⟨_, rfl⟩
          have z1 : ((((z).1 : Nat) : Int)) < 256 := by have := z.2; omega
          have z0 : 0 ≤ ((((z).1 : Nat) : Int)) := by omega
          obtain ⟨x0, hx0⟩ := HJ.out.2.cell z
          have c0 : wr.cell? ⟨V, z.1, none⟩ = some (.int .u8 x0) := hx0
          have hS0 : wr.drew.cell? ⟨p, q, none⟩ = some (.int .u8 (z.1 : Nat)) ∧ wr.drew.cell? ⟨p, B, none⟩ = some (.int .u8 (y.1 : Nat)) := by
            rw [← Hz.out, ← Hy.out]
            exact ⟨HJ.out.1.pw q hlt, HJ.out.1.pw B (by have := HB.out; omega)⟩
          have hfz : wr.drew.frozen? ⟨V, z.1, none⟩ = false := HJ.out.2.frozen z.1
          have hcell : wr.drew.cell? ⟨V, z.1, none⟩ = some (.int .u8 x0) := hx0
          clear hx0 c0 hq hlt
          go_upto_region 20 with fail
          refine wp_region_noPanic ?_
          refine wp_region_till (fun u => u.cell? ⟨p, q, none⟩ = some (.int .u8 (z.1 : Nat)) ∧ u.cell? ⟨p, B, none⟩ = some (.int .u8 (y.1 : Nat))) 11 (by kernel_rfl) (by decide) (by decide +kernel) (by decide +kernel) (by decide +kernel) (fun inv => ?_)
          refine till_at 0 95 (.slice (some ⟨p, 0, none⟩) 255 pc) inv rfl rfl (by decide) (by decide +kernel) (by decide +kernel) (fun _ _ _ h => h) (hS0) (Or.inl ⟨by rfl, fun w' hS' => by obtain ⟨k1, k2⟩ := hS'; go_simp⟩) (fun inv' => ?_)
          clear inv; have inv := inv'; clear inv'
          try simp only [List.setIfInBounds_toArray, List.set_cons_zero, List.set_cons_succ]
          refine till_at 1 96 (.int .i64 (q : Nat)) inv rfl rfl (by decide) (by decide +kernel) (by decide +kernel) (fun _ _ _ h => h) (hS0) (Or.inl ⟨by rfl, fun w' hS' => by obtain ⟨k1, k2⟩ := hS'; go_simp⟩) (fun inv' => ?_)
          clear inv; have inv := inv'; clear inv'
          try simp only [List.setIfInBounds_toArray, List.set_cons_zero, List.set_cons_succ]
          refine till_at 2 97 (.pointer (some ⟨p, q, none⟩)) inv rfl rfl (by decide) (by decide +kernel) (by decide +kernel) (fun _ _ _ h => h) (hS0) (Or.inl ⟨by rfl, fun w' hS' => by obtain ⟨k1, k2⟩ := hS'; go_simp⟩) (fun inv' => ?_)
          clear inv; have inv := inv'; clear inv'
          try simp only [List.setIfInBounds_toArray, List.set_cons_zero, List.set_cons_succ]
          refine till_at 3 98 (.int .u8 ((z).1 : Nat)) inv rfl rfl (by decide) (by decide +kernel) (by decide +kernel) (fun _ _ _ h => h) (hS0) (Or.inl ⟨by rfl, fun w' hS' => by obtain ⟨k1, k2⟩ := hS'; go_simp⟩) (fun inv' => ?_)
          clear inv; have inv := inv'; clear inv'
          try simp only [List.setIfInBounds_toArray, List.set_cons_zero, List.set_cons_succ]
          refine till_at 4 99 (.slice (some ⟨p, 0, none⟩) 255 pc) inv rfl rfl (by decide) (by decide +kernel) (by decide +kernel) (fun _ _ _ h => h) (hS0) (Or.inl ⟨by rfl, fun w' hS' => by obtain ⟨k1, k2⟩ := hS'; go_simp⟩) (fun inv' => ?_)
          clear inv; have inv := inv'; clear inv'
          try simp only [List.setIfInBounds_toArray, List.set_cons_zero, List.set_cons_succ]
          refine till_at 5 100 (.int .i64 (q : Nat)) inv rfl rfl (by decide) (by decide +kernel) (by decide +kernel) (fun _ _ _ h => h) (hS0) (Or.inl ⟨by rfl, fun w' hS' => by obtain ⟨k1, k2⟩ := hS'; go_simp⟩) (fun inv' => ?_)
          clear inv; have inv := inv'; clear inv'
          try simp only [List.setIfInBounds_toArray, List.set_cons_zero, List.set_cons_succ]
          refine till_at 6 101 (.int .i64 (A : Nat)) inv rfl rfl (by decide) (by decide +kernel) (by decide +kernel) (fun _ _ _ h => h) (hS0) (Or.inl ⟨by rfl, fun w' hS' => by obtain ⟨k1, k2⟩ := hS'; go_simp⟩) (fun inv' => ?_)
          clear inv; have inv := inv'; clear inv'
          try simp only [List.setIfInBounds_toArray, List.set_cons_zero, List.set_cons_succ]
          refine till_at 7 102 (.int .i64 (B : Nat)) inv rfl rfl (by decide) (by decide +kernel) (by decide +kernel) (fun _ _ _ h => h) (hS0) (Or.inl ⟨by rfl, fun w' hS' => by obtain ⟨k1, k2⟩ := hS'; go_simp⟩) (fun inv' => ?_)
          clear inv; have inv := inv'; clear inv'
          try simp only [List.setIfInBounds_toArray, List.set_cons_zero, List.set_cons_succ]
          refine till_at 8 103 (.pointer (some ⟨p, B, none⟩)) inv rfl rfl (by decide) (by decide +kernel) (by decide +kernel) (fun _ _ _ h => h) (hS0) (Or.inl ⟨by rfl, fun w' hS' => by obtain ⟨k1, k2⟩ := hS'; go_simp⟩) (fun inv' => ?_)
          clear inv; have inv := inv'; clear inv'
          try simp only [List.setIfInBounds_toArray, List.set_cons_zero, List.set_cons_succ]
          refine till_at 9 104 (.int .u8 ((y).1 : Nat)) inv rfl rfl (by decide) (by decide +kernel) (by decide +kernel) (fun _ _ _ h => h) (hS0) (Or.inl ⟨by rfl, fun w' hS' => by obtain ⟨k1, k2⟩ := hS'; go_simp⟩) (fun inv' => ?_)
          clear inv; have inv := inv'; clear inv'
          try simp only [List.setIfInBounds_toArray, List.set_cons_zero, List.set_cons_succ]
          refine till_at 10 105 (.pointer (some ⟨V, z.1, none⟩)) inv rfl rfl (by decide) (by decide +kernel) (by decide +kernel) (fun _ _ _ h => h) (hS0) (Or.inl ⟨by rfl, fun w' hS' => by obtain ⟨k1, k2⟩ := hS'; go_simp⟩) (fun inv' => ?_)
          clear inv; have inv := inv'; clear inv'
          try simp only [List.setIfInBounds_toArray, List.set_cons_zero, List.set_cons_succ]
          refine till_tail (i := 11) (by decide +kernel) (by decide) rfl (fun KK hK => ?_)
          go_simp
          refine hK.out _ _ ?_
          clear hK KK
          try simp only [List.setIfInBounds_toArray, List.set_cons_zero, List.set_cons_succ]
          refine till_done (by decide +kernel) ?_ _
          refine NoPanic.normal ?_
          have HNX : Hid (NeI M S p b off l w (wr.setCell ⟨V, z.1, none⟩ (.int .u8 (y.1 : Nat))).drew ∧ InvT (wr.setCell ⟨V, z.1, none⟩ (.int .u8 (y.1 : Nat))).drew V (q + 1)) := by
            obtain ⟨v1, v2, v3, v4⟩ := HVV.out
            refine ⟨HJ.out.1.far (((Below.refl V wr).setCell (Nat.le_refl V) _).drew) v1 v2 v3 v4, ?_⟩
            have n0 := HJ.out.2.next HLT.out
            rw [inv_Em q B HLT.out (by rw [HA.out]; exact HB.out), Hz.out, Hy.out] at n0
            exact n0
          generalize (wr.setCell ⟨V, z.1, none⟩ (.int .u8 (y.1 : Nat))).drew = w6 at HNX ⊢
          have wn := next_num q 255 HLT.out (Nat.le_refl _)
          clear hS0 hfz hcell inv
          go_wp2
          have e0 := HLT.out
          refine ⟨⟨q + 1, by omega, by first | rfl | (simp; done), HNX.out⟩, ?_⟩
          simp [intOf]
          omega
        · have h255 : q = 255 := by omega
          have g2 : ¬ (q : Int) < 255 := by omega
          have HT0 : Hid (NeI M S p b off l w wr ∧ InvT wr V 255) := by rw [← h255]; exact HJ.out
          clear HJ h255 hlt hq
          go_wp2
          go_loopw [15] (fun vi wq => ∃ i : Nat, i ≤ n ∧ vi = .int .i64 (i : Nat) ∧ Hid ((NeI M S p b off l w wq ∧ InvT wq V 255) ∧ ∀ i' k', i' < i → i' < k' → k' < n → ¬ two1 l i' k')) (fun vi _ => n - (intOf vi).toNat)
          case atStart => exact ⟨0, by omega, rfl, HT0.out, fun _ _ h => absurd h (by omega)⟩
          case round =>
            obtain ⟨i, hi, rfl, HI⟩ := hrel
            clear HT0
            by_cases hlt : i < n
            case neg =>
              obtain rfl : n = i := by omega
              have g3 : ¬ (n : Int) < (n : Int) := Int.lt_irrefl _
              have HQ : Hid (NearQ l n M (.returned (.tuple #[.slice none 0 0, .int .i64 0, .bool false])) w wr) :=
                ⟨Or.inr ⟨none_near l (by rw [HN.out.1]; exact HN.out.2.2.1) HNZ.out (fun q hq => HNO1.out q (by rw [← HN.out.1]; exact hq)) (fun i' k' h1 h2 => HI.out.2 i' k' (by rw [HN.out.1] at h2; omega) h1 (by rw [← HN.out.1]; exact h2)), rfl⟩, HI.out.1.1.bel⟩
              clear HI hi hlt
              go_wp2
              go_ret3
              rw [HMM.out]
              exact HQ.out
            case pos =>
            have HLT : Hid (i < n) := hlt
            have g3 : (i : Int) < (n : Int) := by omega
            have g0 : (0 : Int) ≤ (i : Int) := by omega
            obtain ⟨A, HA⟩ : ∃ A, Hid (n - 1 - i = A) := ⟨_, rfl⟩
            obtain ⟨a1, a2, a3, a4⟩ := sub_num n i A HN.out.2.2.1 hlt HA.out
            obtain ⟨x, Hx⟩ : ∃ z : F, Hid (X n i = z) := ⟨_, rfl⟩
            have HCX : Hid (∀ u, NeI M S p b off l w u → u.cell? ⟨p, A, none⟩ = some (.int .u8 (x.1 : Nat))) := fun u hu => by
              rw [← Hx.out, xval n i A HA.out]
              exact hu.pw A (by have := HA.out; have := HN.out; omega)
            have cxx := HCX.out wr HI.out.1.1
            have wn := next_num i n hlt HN.out.2.2.1
            clear hi hlt
            go_upto_region 25 with fail
            clear cxx a1 a2 a3 a4
            go_wp2
            go_loopw [17] (fun vk wq => ∃ k : Nat, k ≤ n ∧ i + 1 ≤ k ∧ vk = .int .i64 (k : Nat) ∧ Hid ((NeI M S p b off l w wq ∧ InvT wq V 255) ∧ ∀ k', i < k' → k' < k → ¬ two1 l i k')) (fun vk _ => n - (intOf vk).toNat)
            case atStart => exact ⟨i + 1, HLT.out, Nat.le_refl _, by first | rfl | (simp; done), HI.out.1, fun k' h1 h2 => absurd h1 (by omega)⟩
            case round =>
              obtain ⟨k, hk, hik, rfl, HJ⟩ := hrel
              by_cases hlt : k < n
              case neg =>
                obtain rfl : n = k := by omega
                have g4 : ¬ (n : Int) < (n : Int) := Int.lt_irrefl _
                have HNX : Hid ((NeI M S p b off l w wr ∧ InvT wr V 255) ∧ ∀ i' k', i' < i + 1 → i' < k' → k' < n → ¬ two1 l i' k') := by
                  refine ⟨HJ.out.1, fun i' k' h1 h2 h3 => ?_⟩
                  by_cases e : i' = i
                  · rw [e] at h2 ⊢; exact HJ.out.2 k' h2 h3
                  · exact HI.out.2 i' k' (by omega) h2 h3
                clear HJ hk hik hlt
                go_wp2
                have e0 := HLT.out
                refine ⟨⟨i + 1, by omega, by first | rfl | (simp; done), HNX.out⟩, ?_⟩
                simp [intOf]
                omega
              case pos =>
              have HKT : Hid (i < k ∧ k < n) := ⟨hik, hlt⟩
              have g4 : (k : Int) < (n : Int) := by omega
              have g5 : (0 : Int) ≤ (k : Int) := by omega
              obtain ⟨C, HC⟩ : ∃ A, Hid (n - 1 - k = A) := ⟨_, rfl⟩
              obtain ⟨a1, a2, a3, a4⟩ := sub_num n k C HN.out.2.2.1 hlt HC.out
              obtain ⟨y, Hy⟩ : ∃ z : F, Hid (X n k = z) := ⟨_, rfl⟩
              have cyy : wr.cell? ⟨p, C, none⟩ = some (.int .u8 (y.1 : Nat)) := by
                rw [← Hy.out, xval n k C HC.out]
                exact HJ.out.1.1.pw C (by have := HC.out; have := HN.out; omega)
              have wk := next_num k n hlt HN.out.2.2.1
              clear hk hik hlt
              go_upto_region 29 with fail
              clear cyy a1 a2 a3 a4
              have HXY : Hid (fa x y ≠ 0) := by rw [← Hx.out, ← Hy.out]; exact X_ne n i k HN.out.2.2.1 (by have := HKT.out; omega) HKT.out.2 (by have := HKT.out; omega)
              obtain ⟨zz, Hzz⟩ : ∃ z : F, Hid (fa x y = z) := ⟨_, rfl⟩
              obtain ⟨iv, Hiv⟩ : ∃ z : F, Hid (invF zz = z) := ⟨_, rfl⟩
              obtain ⟨m1, Hm1⟩ : ∃ z : F, Hid (fm s0 x = z) := ⟨_, rfl⟩
              obtain ⟨aa, Haa⟩ : ∃ z : F, Hid (fa s1 m1 = z) := ⟨_, rfl⟩
              obtain ⟨ww, Hww⟩ : ∃ z : F, Hid (fm aa iv = z) := ⟨_, rfl⟩
              obtain ⟨vv, Hvv⟩ : ∃ z : F, Hid (fa s0 ww = z) := ⟨_, rfl⟩
              obtain ⟨xx, Hxx⟩ : ∃ z : F, Hid (fm x x = z) := ⟨_, rfl⟩
              obtain ⟨vxx, Hvxx⟩ : ∃ z : F, Hid (fm vv xx = z) := ⟨_, rfl⟩
              obtain ⟨yy, Hyy⟩ : ∃ z : F, Hid (fm y y = z) := ⟨_, rfl⟩
              obtain ⟨wyy, Hwyy⟩ : ∃ z : F, Hid (fm ww yy = z) := ⟨_, rfl⟩
              obtain ⟨q2, Hq2⟩ : ∃ z : F, Hid (fa vxx wyy = z) := ⟨_, rfl⟩
              obtain ⟨xxx, Hxxx⟩ : ∃ z : F, Hid (fm x xx = z) := ⟨_, rfl⟩
              obtain ⟨vx3, Hvx3⟩ : ∃ z : F, Hid (fm vv xxx = z) := ⟨_, rfl⟩
              obtain ⟨yyy, Hyyy⟩ : ∃ z : F, Hid (fm y yy = z) := ⟨_, rfl⟩
              obtain ⟨wy3, Hwy3⟩ : ∃ z : F, Hid (fm ww yyy = z) := ⟨_, rfl⟩
              obtain ⟨q3, Hq3⟩ : ∃ z : F, Hid (fa vx3 wy3 = z) := ⟨_, rfl⟩
              have HCL : Hid (∀ (a b r : F) (u : World), fm a b = r → Calls Try.prog 21 #[.int .u8 (a.1 : Nat), .int .u8 (b.1 : Nat)] u fun e w' => e = .returned (.int .u8 (r.1 : Nat)) ∧ w' = u) := fun a b r u h => by rw [← h]; exact H21.out a b u
              have HTW : Hid ((two1 l i k ↔ s2 = q2 ∧ s3 = q3 ∧ vv ≠ 0 ∧ ww ≠ 0) ∧ rV l i k = vv ∧ rW l i k = ww) := by
                have eW : rW l i k = ww := by
                  unfold rW
                  rw [HN.out.1, Hs0.out, Hs1.out, Hx.out, Hy.out, Hzz.out, Hm1.out, Haa.out, Hiv.out, Hww.out]
                have eV : rV l i k = vv := by
                  unfold rV
                  rw [eW, Hs0.out, Hvv.out]
                refine ⟨?_, eV, eW⟩
                unfold two1 T2 T3
                rw [HN.out.1, eV, eW, Hs2.out, Hs3.out, Hx.out, Hy.out, Hxx.out, Hyy.out, Hvxx.out, Hwyy.out, Hq2.out, Hxxx.out, Hyyy.out, Hvx3.out, Hwy3.out, Hq3.out]
              obtain ⟨d0, d1, d2, d3⟩ := HCS.out wr HJ.out.1.1
              have dz : wr.cell? ⟨V, zz.1, none⟩ = some (.int .u8 (iv.1 : Nat)) := by rw [← Hiv.out]; exact HJ.out.1.2.at zz (by rw [← Hzz.out]; exact HXY.out)
              have HD : Hid (wr.cell? ⟨S, 0, none⟩ = some (.int .u8 (s0.1 : Nat)) ∧ wr.cell? ⟨S, 1, none⟩ = some (.int .u8 (s1.1 : Nat)) ∧ wr.cell? ⟨S, 2, none⟩ = some (.int .u8 (s2.1 : Nat)) ∧ wr.cell? ⟨S, 3, none⟩ = some (.int .u8 (s3.1 : Nat))) := ⟨d0, d1, d2, d3⟩
              have hS0 : wr.drew.cell? ⟨S, 0, none⟩ = some (.int .u8 (s0.1 : Nat)) ∧ wr.drew.cell? ⟨S, 1, none⟩ = some (.int .u8 (s1.1 : Nat)) ∧ wr.drew.cell? ⟨V, zz.1, none⟩ = some (.int .u8 (iv.1 : Nat)) := ⟨d0, d1, dz⟩
              clear d0 d1 d2 d3 dz
              have x1 : bits .xor .u8 (((s1).1 : Nat) : Int) (((m1).1 : Nat) : Int) = (((aa).1 : Nat) : Int) := by rw [xorF, Haa.out]
              have x2 : bits .xor .u8 (((x).1 : Nat) : Int) (((y).1 : Nat) : Int) = (((zz).1 : Nat) : Int) := by rw [xorF, Hzz.out]
              have z1 : (((zz).1 : Nat) : Int) < 256 := by have := zz.2; omega
              have z0 : 0 ≤ (((zz).1 : Nat) : Int) := by omega
              refine wp_region_noPanic ?_
              refine wp_region_held_drew (S := fun u => u.cell? ⟨S, 0, none⟩ = some (.int .u8 (s0.1 : Nat)) ∧ u.cell? ⟨S, 1, none⟩ = some (.int .u8 (s1.1 : Nat)) ∧ u.cell? ⟨V, zz.1, none⟩ = some (.int .u8 (iv.1 : Nat))) (by kernel_rfl) (hS0) (fun _ => ?_)
              refine takeH_at 0 132 (.pointer (some ⟨S, 1, none⟩)) rfl rfl (by kernel_rfl) (by kernel_rfl) (by kernel_rfl) (fun _ _ _ h => h) (hS0) (Or.inl ⟨by kernel_rfl, fun w' hS' => by obtain ⟨k1, k2, k3⟩ := hS'; go_simp⟩) ?_
              simp only [List.setIfInBounds_toArray, List.set_cons_zero, List.set_cons_succ]
              refine takeH_at 1 133 (.int .u8 ((s1).1 : Nat)) rfl rfl (by kernel_rfl) (by kernel_rfl) (by kernel_rfl) (fun _ _ _ h => h) (hS0) (Or.inl ⟨by kernel_rfl, fun w' hS' => by obtain ⟨k1, k2, k3⟩ := hS'; go_simp⟩) ?_
              simp only [List.setIfInBounds_toArray, List.set_cons_zero, List.set_cons_succ]
              refine takeH_at 2 134 (.pointer (some ⟨S, 0, none⟩)) rfl rfl (by kernel_rfl) (by kernel_rfl) (by kernel_rfl) (fun _ _ _ h => h) (hS0) (Or.inl ⟨by kernel_rfl, fun w' hS' => by obtain ⟨k1, k2, k3⟩ := hS'; go_simp⟩) ?_
              simp only [List.setIfInBounds_toArray, List.set_cons_zero, List.set_cons_succ]
              refine takeH_at 3 135 (.int .u8 ((s0).1 : Nat)) rfl rfl (by kernel_rfl) (by kernel_rfl) (by kernel_rfl) (fun _ _ _ h => h) (hS0) (Or.inl ⟨by kernel_rfl, fun w' hS' => by obtain ⟨k1, k2, k3⟩ := hS'; go_simp⟩) ?_
              simp only [List.setIfInBounds_toArray, List.set_cons_zero, List.set_cons_succ]
              refine takeH_at 4 136 (.int .u8 ((x).1 : Nat)) rfl rfl (by kernel_rfl) (by kernel_rfl) (by kernel_rfl) (fun _ _ _ h => h) (hS0) (Or.inl ⟨by kernel_rfl, fun w' hS' => by obtain ⟨k1, k2, k3⟩ := hS'; go_simp⟩) ?_
              simp only [List.setIfInBounds_toArray, List.set_cons_zero, List.set_cons_succ]
              refine takeH_at 7 139 (.int .u8 ((x).1 : Nat)) rfl rfl (by kernel_rfl) (by kernel_rfl) (by kernel_rfl) (fun _ _ _ h => h) (hS0) (Or.inl ⟨by kernel_rfl, fun w' hS' => by obtain ⟨k1, k2, k3⟩ := hS'; go_simp⟩) ?_
              simp only [List.setIfInBounds_toArray, List.set_cons_zero, List.set_cons_succ]
              refine takeH_at 8 140 (.int .u8 ((y).1 : Nat)) rfl rfl (by kernel_rfl) (by kernel_rfl) (by kernel_rfl) (fun _ _ _ h => h) (hS0) (Or.inl ⟨by kernel_rfl, fun w' hS' => by obtain ⟨k1, k2, k3⟩ := hS'; go_simp⟩) ?_
              simp only [List.setIfInBounds_toArray, List.set_cons_zero, List.set_cons_succ]
              refine takeH_at 9 141 (.int .u8 ((zz).1 : Nat)) rfl rfl (by kernel_rfl) (by kernel_rfl) (by kernel_rfl) (fun _ _ _ h => h) (hS0) (Or.inl ⟨by kernel_rfl, fun w' hS' => by obtain ⟨k1, k2, k3⟩ := hS'; go_simp⟩) ?_
              simp only [List.setIfInBounds_toArray, List.set_cons_zero, List.set_cons_succ]
              refine takeH_at 10 142 (.pointer (some ⟨V, zz.1, none⟩)) rfl rfl (by kernel_rfl) (by kernel_rfl) (by kernel_rfl) (fun _ _ _ h => h) (hS0) (Or.inl ⟨by kernel_rfl, fun w' hS' => by obtain ⟨k1, k2, k3⟩ := hS'; go_simp⟩) ?_
              simp only [List.setIfInBounds_toArray, List.set_cons_zero, List.set_cons_succ]
              refine takeH_at 11 143 (.int .u8 ((iv).1 : Nat)) rfl rfl (by kernel_rfl) (by kernel_rfl) (by kernel_rfl) (fun _ _ _ h => h) (hS0) (Or.inl ⟨by kernel_rfl, fun w' hS' => by obtain ⟨k1, k2, k3⟩ := hS'; go_simp⟩) ?_
              simp only [List.setIfInBounds_toArray, List.set_cons_zero, List.set_cons_succ]
              refine wpAnyH_ready (rs := [5]) (by kernel_rfl) (by simp) ?_
              refine AllReadyH.cons rfl (fun Kx hK => ?_) AllReadyH.nil
              rw [if_pos (by kernel_rfl)]
              go_simp
              refine (HCL.out s0 x m1 _ Hm1.out).mono ?_
              rintro e1 q1 ⟨rfl, hw1⟩
              obtain rfl := hw1.symm
              clear hw1
              go_wp2_with fail
              refine hK.out _ _ hS0 (fun _ => ?_)
              clear hK Kx
              try simp only [Act.put, List.setIfInBounds_toArray, List.set_cons_zero, List.set_cons_succ]
              refine takeH_at 6 138 (.int .u8 ((aa).1 : Nat)) rfl rfl (by kernel_rfl) (by kernel_rfl) (by kernel_rfl) (fun _ _ _ h => h) (hS0) (Or.inl ⟨by kernel_rfl, fun w' hS' => by obtain ⟨k1, k2, k3⟩ := hS'; go_simp⟩) ?_
              simp only [List.setIfInBounds_toArray, List.set_cons_zero, List.set_cons_succ]
              refine wpAnyH_ready (rs := [12]) (by kernel_rfl) (by simp) ?_
              refine AllReadyH.cons rfl (fun Kx hK => ?_) AllReadyH.nil
              rw [if_pos (by kernel_rfl)]
              go_simp
              refine (HCL.out aa iv ww _ Hww.out).mono ?_
              rintro e1 q1 ⟨rfl, hw1⟩
              obtain rfl := hw1.symm
              clear hw1
              go_wp2_with fail
              refine hK.out _ _ hS0 (fun _ => ?_)
              clear hK Kx
              try simp only [Act.put, List.setIfInBounds_toArray, List.set_cons_zero, List.set_cons_succ]
              refine takeH_at 13 19 (.int .u8 ((ww).1 : Nat)) rfl rfl (by kernel_rfl) (by kernel_rfl) (by kernel_rfl) (fun _ _ _ h => h) (hS0) (Or.inl ⟨by kernel_rfl, fun w' hS' => by obtain ⟨k1, k2, k3⟩ := hS'; go_simp⟩) ?_
              simp only [List.setIfInBounds_toArray, List.set_cons_zero, List.set_cons_succ]
              refine wpAnyH_done (by kernel_rfl) ?_ _
              refine NoPanic.normal ?_
              clear x1 x2 z1 z0 hS0
              have x3 : bits .xor .u8 (((s0).1 : Nat) : Int) (((ww).1 : Nat) : Int) = (((vv).1 : Nat) : Int) := by rw [xorF, Hvv.out]
              have d0 : wr.drew.cell? ⟨S, 0, none⟩ = some (.int .u8 (s0.1 : Nat)) := HD.out.1
              go_upto_region 31 with fail
              clear d0 x3
              have x4 : bits .xor .u8 (((vxx).1 : Nat) : Int) (((wyy).1 : Nat) : Int) = (((q2).1 : Nat) : Int) := by rw [xorF, Hq2.out]
              have x5 : bits .xor .u8 (((vx3).1 : Nat) : Int) (((wy3).1 : Nat) : Int) = (((q3).1 : Nat) : Int) := by rw [xorF, Hq3.out]
              have hS0 : wr.drew.drew.cell? ⟨S, 2, none⟩ = some (.int .u8 (s2.1 : Nat)) ∧ wr.drew.drew.cell? ⟨S, 3, none⟩ = some (.int .u8 (s3.1 : Nat)) := HD.out.2.2
              have HNO : Hid (¬ two1 l i k → Hid ((NeI M S p b off l w wr.drew.drew ∧ InvT wr.drew.drew V 255) ∧ ∀ k', i < k' → k' < k + 1 → ¬ two1 l i k')) := fun hno => by
                refine ⟨⟨HJ.out.1.1.below (Below.refl _ _).drew.drew, HJ.out.1.2.below (Below.refl _ _).drew.drew⟩, fun k' h1 h2 => ?_⟩
                by_cases e : k' = k
                · rw [e]; exact hno
                · exact HJ.out.2 k' h1 (by omega)
              by_cases e1 : s2 = q2
              case neg =>
                have f0 : ((((s2).1 : Nat) : Int) != (((q2).1 : Nat) : Int)) = true := by rw [neF, decide_eq_false e1]; rfl
                have HF : Hid (¬ two1 l i k) := fun h => e1 (HTW.out.1.1 h).1
                clear e1
                refine wp_region_noPanic ?_
                refine wp_region_held_drew (S := fun u => u.cell? ⟨S, 2, none⟩ = some (.int .u8 (s2.1 : Nat)) ∧ u.cell? ⟨S, 3, none⟩ = some (.int .u8 (s3.1 : Nat))) (by kernel_rfl) (hS0) (fun _ => ?_)
                refine takeH_at 0 149 (.pointer (some ⟨S, 2, none⟩)) rfl rfl (by kernel_rfl) (by kernel_rfl) (by kernel_rfl) (fun _ _ _ h => h) (hS0) (Or.inl ⟨by kernel_rfl, fun w' hS' => by obtain ⟨k1, k2⟩ := hS'; go_simp⟩) ?_
                simp only [List.setIfInBounds_toArray, List.set_cons_zero, List.set_cons_succ]
                refine takeH_at 1 150 (.int .u8 ((s2).1 : Nat)) rfl rfl (by kernel_rfl) (by kernel_rfl) (by kernel_rfl) (fun _ _ _ h => h) (hS0) (Or.inl ⟨by kernel_rfl, fun w' hS' => by obtain ⟨k1, k2⟩ := hS'; go_simp⟩) ?_
                simp only [List.setIfInBounds_toArray, List.set_cons_zero, List.set_cons_succ]
                refine takeH_at 2 151 (.int .u8 ((vv).1 : Nat)) rfl rfl (by kernel_rfl) (by kernel_rfl) (by kernel_rfl) (fun _ _ _ h => h) (hS0) (Or.inl ⟨by kernel_rfl, fun w' hS' => by obtain ⟨k1, k2⟩ := hS'; go_simp⟩) ?_
                simp only [List.setIfInBounds_toArray, List.set_cons_zero, List.set_cons_succ]
                refine takeH_at 3 152 (.int .u8 ((x).1 : Nat)) rfl rfl (by kernel_rfl) (by kernel_rfl) (by kernel_rfl) (fun _ _ _ h => h) (hS0) (Or.inl ⟨by kernel_rfl, fun w' hS' => by obtain ⟨k1, k2⟩ := hS'; go_simp⟩) ?_
                simp only [List.setIfInBounds_toArray, List.set_cons_zero, List.set_cons_succ]
                refine takeH_at 4 153 (.int .u8 ((x).1 : Nat)) rfl rfl (by kernel_rfl) (by kernel_rfl) (by kernel_rfl) (fun _ _ _ h => h) (hS0) (Or.inl ⟨by kernel_rfl, fun w' hS' => by obtain ⟨k1, k2⟩ := hS'; go_simp⟩) ?_
                simp only [List.setIfInBounds_toArray, List.set_cons_zero, List.set_cons_succ]
                refine takeH_at 7 156 (.int .u8 ((ww).1 : Nat)) rfl rfl (by kernel_rfl) (by kernel_rfl) (by kernel_rfl) (fun _ _ _ h => h) (hS0) (Or.inl ⟨by kernel_rfl, fun w' hS' => by obtain ⟨k1, k2⟩ := hS'; go_simp⟩) ?_
                simp only [List.setIfInBounds_toArray, List.set_cons_zero, List.set_cons_succ]
                refine takeH_at 8 157 (.int .u8 ((y).1 : Nat)) rfl rfl (by kernel_rfl) (by kernel_rfl) (by kernel_rfl) (fun _ _ _ h => h) (hS0) (Or.inl ⟨by kernel_rfl, fun w' hS' => by obtain ⟨k1, k2⟩ := hS'; go_simp⟩) ?_
                simp only [List.setIfInBounds_toArray, List.set_cons_zero, List.set_cons_succ]
                refine takeH_at 9 158 (.int .u8 ((y).1 : Nat)) rfl rfl (by kernel_rfl) (by kernel_rfl) (by kernel_rfl) (fun _ _ _ h => h) (hS0) (Or.inl ⟨by kernel_rfl, fun w' hS' => by obtain ⟨k1, k2⟩ := hS'; go_simp⟩) ?_
                simp only [List.setIfInBounds_toArray, List.set_cons_zero, List.set_cons_succ]
                refine wpAnyH_ready (rs := [5]) (by kernel_rfl) (by simp) ?_
                refine AllReadyH.cons rfl (fun Kx hK => ?_) AllReadyH.nil
                rw [if_pos (by kernel_rfl)]
                go_simp
                refine (HCL.out x x xx _ Hxx.out).mono ?_
                rintro e1 q1 ⟨rfl, hw1⟩
                obtain rfl := hw1.symm
                clear hw1
                go_wp2_with fail
                refine hK.out _ _ hS0 (fun _ => ?_)
                clear hK Kx
                try simp only [Act.put, List.setIfInBounds_toArray, List.set_cons_zero, List.set_cons_succ]
                refine wpAnyH_ready (rs := [6]) (by kernel_rfl) (by simp) ?_
                refine AllReadyH.cons rfl (fun Kx hK => ?_) AllReadyH.nil
                rw [if_pos (by kernel_rfl)]
                go_simp
                refine (HCL.out vv xx vxx _ Hvxx.out).mono ?_
                rintro e1 q1 ⟨rfl, hw1⟩
                obtain rfl := hw1.symm
                clear hw1
                go_wp2_with fail
                refine hK.out _ _ hS0 (fun _ => ?_)
                clear hK Kx
                try simp only [Act.put, List.setIfInBounds_toArray, List.set_cons_zero, List.set_cons_succ]
                refine wpAnyH_ready (rs := [10]) (by kernel_rfl) (by simp) ?_
                refine AllReadyH.cons rfl (fun Kx hK => ?_) AllReadyH.nil
                rw [if_pos (by kernel_rfl)]
                go_simp
                refine (HCL.out y y yy _ Hyy.out).mono ?_
                rintro e1 q1 ⟨rfl, hw1⟩
                obtain rfl := hw1.symm
                clear hw1
                go_wp2_with fail
                refine hK.out _ _ hS0 (fun _ => ?_)
                clear hK Kx
                try simp only [Act.put, List.setIfInBounds_toArray, List.set_cons_zero, List.set_cons_succ]
                refine wpAnyH_ready (rs := [11]) (by kernel_rfl) (by simp) ?_
                refine AllReadyH.cons rfl (fun Kx hK => ?_) AllReadyH.nil
                rw [if_pos (by kernel_rfl)]
                go_simp
                refine (HCL.out ww yy wyy _ Hwyy.out).mono ?_
                rintro e1 q1 ⟨rfl, hw1⟩
                obtain rfl := hw1.symm
                clear hw1
                go_wp2_with fail
                refine hK.out _ _ hS0 (fun _ => ?_)
                clear hK Kx
                try simp only [Act.put, List.setIfInBounds_toArray, List.set_cons_zero, List.set_cons_succ]
                refine takeH_at 12 161 (.int .u8 ((q2).1 : Nat)) rfl rfl (by kernel_rfl) (by kernel_rfl) (by kernel_rfl) (fun _ _ _ h => h) (hS0) (Or.inl ⟨by kernel_rfl, fun w' hS' => by obtain ⟨k1, k2⟩ := hS'; go_simp⟩) ?_
                simp only [List.setIfInBounds_toArray, List.set_cons_zero, List.set_cons_succ]
                refine takeH_at 13 162 (.bool true) rfl rfl (by kernel_rfl) (by kernel_rfl) (by kernel_rfl) (fun _ _ _ h => h) (hS0) (Or.inl ⟨by kernel_rfl, fun w' hS' => by obtain ⟨k1, k2⟩ := hS'; go_simp⟩) ?_
                simp only [List.setIfInBounds_toArray, List.set_cons_zero, List.set_cons_succ]
                refine takeH_at 14 163 (.bool true) rfl rfl (by kernel_rfl) (by kernel_rfl) (by kernel_rfl) (fun _ _ _ h => h) (hS0) (Or.inl ⟨by kernel_rfl, fun w' hS' => by obtain ⟨k1, k2⟩ := hS'; go_simp⟩) ?_
                simp only [List.setIfInBounds_toArray, List.set_cons_zero, List.set_cons_succ]
                refine takeH_at 15 164 undef rfl rfl (by kernel_rfl) (by kernel_rfl) (by kernel_rfl) (fun _ _ _ h => h) (hS0) (Or.inr ⟨by kernel_rfl, rfl⟩) ?_
                simp only [List.setIfInBounds_toArray, List.set_cons_zero, List.set_cons_succ]
                refine takeH_at 16 165 undef rfl rfl (by kernel_rfl) (by kernel_rfl) (by kernel_rfl) (fun _ _ _ h => h) (hS0) (Or.inr ⟨by kernel_rfl, rfl⟩) ?_
                simp only [List.setIfInBounds_toArray, List.set_cons_zero, List.set_cons_succ]
                refine takeH_at 17 166 undef rfl rfl (by kernel_rfl) (by kernel_rfl) (by kernel_rfl) (fun _ _ _ h => h) (hS0) (Or.inr ⟨by kernel_rfl, rfl⟩) ?_
                simp only [List.setIfInBounds_toArray, List.set_cons_zero, List.set_cons_succ]
                refine takeH_at 18 167 undef rfl rfl (by kernel_rfl) (by kernel_rfl) (by kernel_rfl) (fun _ _ _ h => h) (hS0) (Or.inr ⟨by kernel_rfl, rfl⟩) ?_
                simp only [List.setIfInBounds_toArray, List.set_cons_zero, List.set_cons_succ]
                refine takeH_at 19 168 undef rfl rfl (by kernel_rfl) (by kernel_rfl) (by kernel_rfl) (fun _ _ _ h => h) (hS0) (Or.inr ⟨by kernel_rfl, rfl⟩) ?_
                simp only [List.setIfInBounds_toArray, List.set_cons_zero, List.set_cons_succ]
                refine takeH_at 20 169 undef rfl rfl (by kernel_rfl) (by kernel_rfl) (by kernel_rfl) (fun _ _ _ h => h) (hS0) (Or.inr ⟨by kernel_rfl, rfl⟩) ?_
                simp only [List.setIfInBounds_toArray, List.set_cons_zero, List.set_cons_succ]
                refine takeH_at 21 170 undef rfl rfl (by kernel_rfl) (by kernel_rfl) (by kernel_rfl) (fun _ _ _ h => h) (hS0) (Or.inr ⟨by kernel_rfl, rfl⟩) ?_
                simp only [List.setIfInBounds_toArray, List.set_cons_zero, List.set_cons_succ]
                refine takeH_at 22 171 undef rfl rfl (by kernel_rfl) (by kernel_rfl) (by kernel_rfl) (fun _ _ _ h => h) (hS0) (Or.inr ⟨by kernel_rfl, rfl⟩) ?_
                simp only [List.setIfInBounds_toArray, List.set_cons_zero, List.set_cons_succ]
                refine takeH_at 23 172 undef rfl rfl (by kernel_rfl) (by kernel_rfl) (by kernel_rfl) (fun _ _ _ h => h) (hS0) (Or.inr ⟨by kernel_rfl, rfl⟩) ?_
                simp only [List.setIfInBounds_toArray, List.set_cons_zero, List.set_cons_succ]
                refine takeH_at 24 173 undef rfl rfl (by kernel_rfl) (by kernel_rfl) (by kernel_rfl) (fun _ _ _ h => h) (hS0) (Or.inr ⟨by kernel_rfl, rfl⟩) ?_
                simp only [List.setIfInBounds_toArray, List.set_cons_zero, List.set_cons_succ]
                refine takeH_at 25 174 undef rfl rfl (by kernel_rfl) (by kernel_rfl) (by kernel_rfl) (fun _ _ _ h => h) (hS0) (Or.inr ⟨by kernel_rfl, rfl⟩) ?_
                simp only [List.setIfInBounds_toArray, List.set_cons_zero, List.set_cons_succ]
                refine takeH_at 26 175 undef rfl rfl (by kernel_rfl) (by kernel_rfl) (by kernel_rfl) (fun _ _ _ h => h) (hS0) (Or.inr ⟨by kernel_rfl, rfl⟩) ?_
                simp only [List.setIfInBounds_toArray, List.set_cons_zero, List.set_cons_succ]
                refine takeH_at 27 176 undef rfl rfl (by kernel_rfl) (by kernel_rfl) (by kernel_rfl) (fun _ _ _ h => h) (hS0) (Or.inr ⟨by kernel_rfl, rfl⟩) ?_
                simp only [List.setIfInBounds_toArray, List.set_cons_zero, List.set_cons_succ]
                refine takeH_at 28 177 undef rfl rfl (by kernel_rfl) (by kernel_rfl) (by kernel_rfl) (fun _ _ _ h => h) (hS0) (Or.inr ⟨by kernel_rfl, rfl⟩) ?_
                simp only [List.setIfInBounds_toArray, List.set_cons_zero, List.set_cons_succ]
                refine takeH_at 29 178 undef rfl rfl (by kernel_rfl) (by kernel_rfl) (by kernel_rfl) (fun _ _ _ h => h) (hS0) (Or.inr ⟨by kernel_rfl, rfl⟩) ?_
                simp only [List.setIfInBounds_toArray, List.set_cons_zero, List.set_cons_succ]
                refine takeH_at 30 179 undef rfl rfl (by kernel_rfl) (by kernel_rfl) (by kernel_rfl) (fun _ _ _ h => h) (hS0) (Or.inr ⟨by kernel_rfl, rfl⟩) ?_
                simp only [List.setIfInBounds_toArray, List.set_cons_zero, List.set_cons_succ]
                refine takeH_at 31 180 undef rfl rfl (by kernel_rfl) (by kernel_rfl) (by kernel_rfl) (fun _ _ _ h => h) (hS0) (Or.inr ⟨by kernel_rfl, rfl⟩) ?_
                simp only [List.setIfInBounds_toArray, List.set_cons_zero, List.set_cons_succ]
                refine takeH_at 32 181 undef rfl rfl (by kernel_rfl) (by kernel_rfl) (by kernel_rfl) (fun _ _ _ h => h) (hS0) (Or.inr ⟨by kernel_rfl, rfl⟩) ?_
                simp only [List.setIfInBounds_toArray, List.set_cons_zero, List.set_cons_succ]
                refine takeH_at 33 182 (.bool true) rfl rfl (by kernel_rfl) (by kernel_rfl) (by kernel_rfl) (fun _ _ _ h => h) (hS0) (Or.inl ⟨by kernel_rfl, fun w' hS' => by obtain ⟨k1, k2⟩ := hS'; go_simp⟩) ?_
                simp only [List.setIfInBounds_toArray, List.set_cons_zero, List.set_cons_succ]
                refine takeH_at 34 183 (.bool true) rfl rfl (by kernel_rfl) (by kernel_rfl) (by kernel_rfl) (fun _ _ _ h => h) (hS0) (Or.inl ⟨by kernel_rfl, fun w' hS' => by obtain ⟨k1, k2⟩ := hS'; go_simp⟩) ?_
                simp only [List.setIfInBounds_toArray, List.set_cons_zero, List.set_cons_succ]
                refine takeH_at 35 184 undef rfl rfl (by kernel_rfl) (by kernel_rfl) (by kernel_rfl) (fun _ _ _ h => h) (hS0) (Or.inr ⟨by kernel_rfl, rfl⟩) ?_
                simp only [List.setIfInBounds_toArray, List.set_cons_zero, List.set_cons_succ]
                refine takeH_at 36 185 undef rfl rfl (by kernel_rfl) (by kernel_rfl) (by kernel_rfl) (fun _ _ _ h => h) (hS0) (Or.inr ⟨by kernel_rfl, rfl⟩) ?_
                simp only [List.setIfInBounds_toArray, List.set_cons_zero, List.set_cons_succ]
                refine takeH_at 37 186 (.bool true) rfl rfl (by kernel_rfl) (by kernel_rfl) (by kernel_rfl) (fun _ _ _ h => h) (hS0) (Or.inl ⟨by kernel_rfl, fun w' hS' => by obtain ⟨k1, k2⟩ := hS'; go_simp⟩) ?_
                simp only [List.setIfInBounds_toArray, List.set_cons_zero, List.set_cons_succ]
                refine takeH_at 38 187 (.bool true) rfl rfl (by kernel_rfl) (by kernel_rfl) (by kernel_rfl) (fun _ _ _ h => h) (hS0) (Or.inl ⟨by kernel_rfl, fun w' hS' => by obtain ⟨k1, k2⟩ := hS'; go_simp⟩) ?_
                simp only [List.setIfInBounds_toArray, List.set_cons_zero, List.set_cons_succ]
                refine takeH_at 39 188 undef rfl rfl (by kernel_rfl) (by kernel_rfl) (by kernel_rfl) (fun _ _ _ h => h) (hS0) (Or.inr ⟨by kernel_rfl, rfl⟩) ?_
                simp only [List.setIfInBounds_toArray, List.set_cons_zero, List.set_cons_succ]
                refine takeH_at 40 189 undef rfl rfl (by kernel_rfl) (by kernel_rfl) (by kernel_rfl) (fun _ _ _ h => h) (hS0) (Or.inr ⟨by kernel_rfl, rfl⟩) ?_
                simp only [List.setIfInBounds_toArray, List.set_cons_zero, List.set_cons_succ]
                refine takeH_at 41 190 (.bool true) rfl rfl (by kernel_rfl) (by kernel_rfl) (by kernel_rfl) (fun _ _ _ h => h) (hS0) (Or.inl ⟨by kernel_rfl, fun w' hS' => by obtain ⟨k1, k2⟩ := hS'; go_simp⟩) ?_
                simp only [List.setIfInBounds_toArray, List.set_cons_zero, List.set_cons_succ]
                refine wpAnyH_done (by kernel_rfl) ?_ _
                refine NoPanic.normal ?_
                have HNX := HNO.out HF.out
                clear hS0
                go_wp2
                have e0 := HKT.out
                refine ⟨⟨k + 1, by omega, by omega, by first | rfl | (simp; done), HNX.out⟩, ?_⟩
                simp [intOf]
                omega
              case pos =>
              have f0 : ((((s2).1 : Nat) : Int) != (((q2).1 : Nat) : Int)) = false := by rw [neF, decide_eq_true e1]; rfl
              have HE0 : Hid (s2 = q2) := e1
              clear e1
              by_cases e2 : s3 = q3
              case neg =>
                have f1 : ((((s3).1 : Nat) : Int) != (((q3).1 : Nat) : Int)) = true := by rw [neF, decide_eq_false e2]; rfl
                have HF : Hid (¬ two1 l i k) := fun h => e2 (HTW.out.1.1 h).2.1
                clear e2
                refine wp_region_noPanic ?_
                refine wp_region_held_drew (S := fun u => u.cell? ⟨S, 2, none⟩ = some (.int .u8 (s2.1 : Nat)) ∧ u.cell? ⟨S, 3, none⟩ = some (.int .u8 (s3.1 : Nat))) (by kernel_rfl) (hS0) (fun _ => ?_)
                refine takeH_at 0 149 (.pointer (some ⟨S, 2, none⟩)) rfl rfl (by kernel_rfl) (by kernel_rfl) (by kernel_rfl) (fun _ _ _ h => h) (hS0) (Or.inl ⟨by kernel_rfl, fun w' hS' => by obtain ⟨k1, k2⟩ := hS'; go_simp⟩) ?_
                simp only [List.setIfInBounds_toArray, List.set_cons_zero, List.set_cons_succ]
                refine takeH_at 1 150 (.int .u8 ((s2).1 : Nat)) rfl rfl (by kernel_rfl) (by kernel_rfl) (by kernel_rfl) (fun _ _ _ h => h) (hS0) (Or.inl ⟨by kernel_rfl, fun w' hS' => by obtain ⟨k1, k2⟩ := hS'; go_simp⟩) ?_
                simp only [List.setIfInBounds_toArray, List.set_cons_zero, List.set_cons_succ]
                refine takeH_at 2 151 (.int .u8 ((vv).1 : Nat)) rfl rfl (by kernel_rfl) (by kernel_rfl) (by kernel_rfl) (fun _ _ _ h => h) (hS0) (Or.inl ⟨by kernel_rfl, fun w' hS' => by obtain ⟨k1, k2⟩ := hS'; go_simp⟩) ?_
                simp only [List.setIfInBounds_toArray, List.set_cons_zero, List.set_cons_succ]
                refine takeH_at 3 152 (.int .u8 ((x).1 : Nat)) rfl rfl (by kernel_rfl) (by kernel_rfl) (by kernel_rfl) (fun _ _ _ h => h) (hS0) (Or.inl ⟨by kernel_rfl, fun w' hS' => by obtain ⟨k1, k2⟩ := hS'; go_simp⟩) ?_
                simp only [List.setIfInBounds_toArray, List.set_cons_zero, List.set_cons_succ]
                refine takeH_at 4 153 (.int .u8 ((x).1 : Nat)) rfl rfl (by kernel_rfl) (by kernel_rfl) (by kernel_rfl) (fun _ _ _ h => h) (hS0) (Or.inl ⟨by kernel_rfl, fun w' hS' => by obtain ⟨k1, k2⟩ := hS'; go_simp⟩) ?_
                simp only [List.setIfInBounds_toArray, List.set_cons_zero, List.set_cons_succ]
                refine takeH_at 7 156 (.int .u8 ((ww).1 : Nat)) rfl rfl (by kernel_rfl) (by kernel_rfl) (by kernel_rfl) (fun _ _ _ h => h) (hS0) (Or.inl ⟨by kernel_rfl, fun w' hS' => by obtain ⟨k1, k2⟩ := hS'; go_simp⟩) ?_
                simp only [List.setIfInBounds_toArray, List.set_cons_zero, List.set_cons_succ]
                refine takeH_at 8 157 (.int .u8 ((y).1 : Nat)) rfl rfl (by kernel_rfl) (by kernel_rfl) (by kernel_rfl) (fun _ _ _ h => h) (hS0) (Or.inl ⟨by kernel_rfl, fun w' hS' => by obtain ⟨k1, k2⟩ := hS'; go_simp⟩) ?_
                simp only [List.setIfInBounds_toArray, List.set_cons_zero, List.set_cons_succ]
                refine takeH_at 9 158 (.int .u8 ((y).1 : Nat)) rfl rfl (by kernel_rfl) (by kernel_rfl) (by kernel_rfl) (fun _ _ _ h => h) (hS0) (Or.inl ⟨by kernel_rfl, fun w' hS' => by obtain ⟨k1, k2⟩ := hS'; go_simp⟩) ?_
                simp only [List.setIfInBounds_toArray, List.set_cons_zero, List.set_cons_succ]
                refine wpAnyH_ready (rs := [5]) (by kernel_rfl) (by simp) ?_
                refine AllReadyH.cons rfl (fun Kx hK => ?_) AllReadyH.nil
                rw [if_pos (by kernel_rfl)]
                go_simp
                refine (HCL.out x x xx _ Hxx.out).mono ?_
                rintro e1 q1 ⟨rfl, hw1⟩
                obtain rfl := hw1.symm
                clear hw1
                go_wp2_with fail
                refine hK.out _ _ hS0 (fun _ => ?_)
                clear hK Kx
                try simp only [Act.put, List.setIfInBounds_toArray, List.set_cons_zero, List.set_cons_succ]
                refine wpAnyH_ready (rs := [6]) (by kernel_rfl) (by simp) ?_
                refine AllReadyH.cons rfl (fun Kx hK => ?_) AllReadyH.nil
                rw [if_pos (by kernel_rfl)]
                go_simp
                refine (HCL.out vv xx vxx _ Hvxx.out).mono ?_
                rintro e1 q1 ⟨rfl, hw1⟩
                obtain rfl := hw1.symm
                clear hw1
                go_wp2_with fail
                refine hK.out _ _ hS0 (fun _ => ?_)
                clear hK Kx
                try simp only [Act.put, List.setIfInBounds_toArray, List.set_cons_zero, List.set_cons_succ]
                refine wpAnyH_ready (rs := [10]) (by kernel_rfl) (by simp) ?_
                refine AllReadyH.cons rfl (fun Kx hK => ?_) AllReadyH.nil
                rw [if_pos (by kernel_rfl)]
                go_simp
                refine (HCL.out y y yy _ Hyy.out).mono ?_
                rintro e1 q1 ⟨rfl, hw1⟩
                obtain rfl := hw1.symm
                clear hw1
                go_wp2_with fail
                refine hK.out _ _ hS0 (fun _ => ?_)
                clear hK Kx
                try simp only [Act.put, List.setIfInBounds_toArray, List.set_cons_zero, List.set_cons_succ]
                refine wpAnyH_ready (rs := [11]) (by kernel_rfl) (by simp) ?_
                refine AllReadyH.cons rfl (fun Kx hK => ?_) AllReadyH.nil
                rw [if_pos (by kernel_rfl)]
                go_simp
                refine (HCL.out ww yy wyy _ Hwyy.out).mono ?_
                rintro e1 q1 ⟨rfl, hw1⟩
                obtain rfl := hw1.symm
                clear hw1
                go_wp2_with fail
                refine hK.out _ _ hS0 (fun _ => ?_)
                clear hK Kx
                try simp only [Act.put, List.setIfInBounds_toArray, List.set_cons_zero, List.set_cons_succ]
                refine takeH_at 12 161 (.int .u8 ((q2).1 : Nat)) rfl rfl (by kernel_rfl) (by kernel_rfl) (by kernel_rfl) (fun _ _ _ h => h) (hS0) (Or.inl ⟨by kernel_rfl, fun w' hS' => by obtain ⟨k1, k2⟩ := hS'; go_simp⟩) ?_
                simp only [List.setIfInBounds_toArray, List.set_cons_zero, List.set_cons_succ]
                refine takeH_at 13 162 (.bool false) rfl rfl (by kernel_rfl) (by kernel_rfl) (by kernel_rfl) (fun _ _ _ h => h) (hS0) (Or.inl ⟨by kernel_rfl, fun w' hS' => by obtain ⟨k1, k2⟩ := hS'; go_simp⟩) ?_
                simp only [List.setIfInBounds_toArray, List.set_cons_zero, List.set_cons_succ]
                refine takeH_at 14 163 (.bool false) rfl rfl (by kernel_rfl) (by kernel_rfl) (by kernel_rfl) (fun _ _ _ h => h) (hS0) (Or.inl ⟨by kernel_rfl, fun w' hS' => by obtain ⟨k1, k2⟩ := hS'; go_simp⟩) ?_
                simp only [List.setIfInBounds_toArray, List.set_cons_zero, List.set_cons_succ]
                refine takeH_at 15 164 (.pointer (some ⟨S, 3, none⟩)) rfl rfl (by kernel_rfl) (by kernel_rfl) (by kernel_rfl) (fun _ _ _ h => h) (hS0) (Or.inl ⟨by kernel_rfl, fun w' hS' => by obtain ⟨k1, k2⟩ := hS'; go_simp⟩) ?_
                simp only [List.setIfInBounds_toArray, List.set_cons_zero, List.set_cons_succ]
                refine takeH_at 16 165 (.int .u8 ((s3).1 : Nat)) rfl rfl (by kernel_rfl) (by kernel_rfl) (by kernel_rfl) (fun _ _ _ h => h) (hS0) (Or.inl ⟨by kernel_rfl, fun w' hS' => by obtain ⟨k1, k2⟩ := hS'; go_simp⟩) ?_
                simp only [List.setIfInBounds_toArray, List.set_cons_zero, List.set_cons_succ]
                refine takeH_at 17 166 (.int .u8 ((vv).1 : Nat)) rfl rfl (by kernel_rfl) (by kernel_rfl) (by kernel_rfl) (fun _ _ _ h => h) (hS0) (Or.inl ⟨by kernel_rfl, fun w' hS' => by obtain ⟨k1, k2⟩ := hS'; go_simp⟩) ?_
                simp only [List.setIfInBounds_toArray, List.set_cons_zero, List.set_cons_succ]
                refine takeH_at 18 167 (.int .u8 ((x).1 : Nat)) rfl rfl (by kernel_rfl) (by kernel_rfl) (by kernel_rfl) (fun _ _ _ h => h) (hS0) (Or.inl ⟨by kernel_rfl, fun w' hS' => by obtain ⟨k1, k2⟩ := hS'; go_simp⟩) ?_
                simp only [List.setIfInBounds_toArray, List.set_cons_zero, List.set_cons_succ]
                refine takeH_at 19 168 (.int .u8 ((x).1 : Nat)) rfl rfl (by kernel_rfl) (by kernel_rfl) (by kernel_rfl) (fun _ _ _ h => h) (hS0) (Or.inl ⟨by kernel_rfl, fun w' hS' => by obtain ⟨k1, k2⟩ := hS'; go_simp⟩) ?_
                simp only [List.setIfInBounds_toArray, List.set_cons_zero, List.set_cons_succ]
                refine takeH_at 20 169 (.int .u8 ((x).1 : Nat)) rfl rfl (by kernel_rfl) (by kernel_rfl) (by kernel_rfl) (fun _ _ _ h => h) (hS0) (Or.inl ⟨by kernel_rfl, fun w' hS' => by obtain ⟨k1, k2⟩ := hS'; go_simp⟩) ?_
                simp only [List.setIfInBounds_toArray, List.set_cons_zero, List.set_cons_succ]
                refine takeH_at 24 173 (.int .u8 ((ww).1 : Nat)) rfl rfl (by kernel_rfl) (by kernel_rfl) (by kernel_rfl) (fun _ _ _ h => h) (hS0) (Or.inl ⟨by kernel_rfl, fun w' hS' => by obtain ⟨k1, k2⟩ := hS'; go_simp⟩) ?_
                simp only [List.setIfInBounds_toArray, List.set_cons_zero, List.set_cons_succ]
                refine takeH_at 25 174 (.int .u8 ((y).1 : Nat)) rfl rfl (by kernel_rfl) (by kernel_rfl) (by kernel_rfl) (fun _ _ _ h => h) (hS0) (Or.inl ⟨by kernel_rfl, fun w' hS' => by obtain ⟨k1, k2⟩ := hS'; go_simp⟩) ?_
                simp only [List.setIfInBounds_toArray, List.set_cons_zero, List.set_cons_succ]
                refine takeH_at 26 175 (.int .u8 ((y).1 : Nat)) rfl rfl (by kernel_rfl) (by kernel_rfl) (by kernel_rfl) (fun _ _ _ h => h) (hS0) (Or.inl ⟨by kernel_rfl, fun w' hS' => by obtain ⟨k1, k2⟩ := hS'; go_simp⟩) ?_
                simp only [List.setIfInBounds_toArray, List.set_cons_zero, List.set_cons_succ]
                refine takeH_at 27 176 (.int .u8 ((y).1 : Nat)) rfl rfl (by kernel_rfl) (by kernel_rfl) (by kernel_rfl) (fun _ _ _ h => h) (hS0) (Or.inl ⟨by kernel_rfl, fun w' hS' => by obtain ⟨k1, k2⟩ := hS'; go_simp⟩) ?_
                simp only [List.setIfInBounds_toArray, List.set_cons_zero, List.set_cons_succ]
                refine wpAnyH_ready (rs := [21]) (by kernel_rfl) (by simp) ?_
                refine AllReadyH.cons rfl (fun Kx hK => ?_) AllReadyH.nil
                rw [if_pos (by kernel_rfl)]
                go_simp
                refine (HCL.out x x xx _ Hxx.out).mono ?_
                rintro e1 q1 ⟨rfl, hw1⟩
                obtain rfl := hw1.symm
                clear hw1
                go_wp2_with fail
                refine hK.out _ _ hS0 (fun _ => ?_)
                clear hK Kx
                try simp only [Act.put, List.setIfInBounds_toArray, List.set_cons_zero, List.set_cons_succ]
                refine wpAnyH_ready (rs := [22]) (by kernel_rfl) (by simp) ?_
                refine AllReadyH.cons rfl (fun Kx hK => ?_) AllReadyH.nil
                rw [if_pos (by kernel_rfl)]
                go_simp
                refine (HCL.out x xx xxx _ Hxxx.out).mono ?_
                rintro e1 q1 ⟨rfl, hw1⟩
                obtain rfl := hw1.symm
                clear hw1
                go_wp2_with fail
                refine hK.out _ _ hS0 (fun _ => ?_)
                clear hK Kx
                try simp only [Act.put, List.setIfInBounds_toArray, List.set_cons_zero, List.set_cons_succ]
                refine wpAnyH_ready (rs := [23]) (by kernel_rfl) (by simp) ?_
                refine AllReadyH.cons rfl (fun Kx hK => ?_) AllReadyH.nil
                rw [if_pos (by kernel_rfl)]
                go_simp
                refine (HCL.out vv xxx vx3 _ Hvx3.out).mono ?_
                rintro e1 q1 ⟨rfl, hw1⟩
                obtain rfl := hw1.symm
                clear hw1
                go_wp2_with fail
                refine hK.out _ _ hS0 (fun _ => ?_)
                clear hK Kx
                try simp only [Act.put, List.setIfInBounds_toArray, List.set_cons_zero, List.set_cons_succ]
                refine wpAnyH_ready (rs := [28]) (by kernel_rfl) (by simp) ?_
                refine AllReadyH.cons rfl (fun Kx hK => ?_) AllReadyH.nil
                rw [if_pos (by kernel_rfl)]
                go_simp
                refine (HCL.out y y yy _ Hyy.out).mono ?_
                rintro e1 q1 ⟨rfl, hw1⟩
                obtain rfl := hw1.symm
                clear hw1
                go_wp2_with fail
                refine hK.out _ _ hS0 (fun _ => ?_)
                clear hK Kx
                try simp only [Act.put, List.setIfInBounds_toArray, List.set_cons_zero, List.set_cons_succ]
                refine wpAnyH_ready (rs := [29]) (by kernel_rfl) (by simp) ?_
                refine AllReadyH.cons rfl (fun Kx hK => ?_) AllReadyH.nil
                rw [if_pos (by kernel_rfl)]
                go_simp
                refine (HCL.out y yy yyy _ Hyyy.out).mono ?_
                rintro e1 q1 ⟨rfl, hw1⟩
                obtain rfl := hw1.symm
                clear hw1
                go_wp2_with fail
                refine hK.out _ _ hS0 (fun _ => ?_)
                clear hK Kx
                try simp only [Act.put, List.setIfInBounds_toArray, List.set_cons_zero, List.set_cons_succ]
                refine wpAnyH_ready (rs := [30]) (by kernel_rfl) (by simp) ?_
                refine AllReadyH.cons rfl (fun Kx hK => ?_) AllReadyH.nil
                rw [if_pos (by kernel_rfl)]
                go_simp
                refine (HCL.out ww yyy wy3 _ Hwy3.out).mono ?_
                rintro e1 q1 ⟨rfl, hw1⟩
                obtain rfl := hw1.symm
                clear hw1
                go_wp2_with fail
                refine hK.out _ _ hS0 (fun _ => ?_)
                clear hK Kx
                try simp only [Act.put, List.setIfInBounds_toArray, List.set_cons_zero, List.set_cons_succ]
                refine takeH_at 31 180 (.int .u8 ((q3).1 : Nat)) rfl rfl (by kernel_rfl) (by kernel_rfl) (by kernel_rfl) (fun _ _ _ h => h) (hS0) (Or.inl ⟨by kernel_rfl, fun w' hS' => by obtain ⟨k1, k2⟩ := hS'; go_simp⟩) ?_
                simp only [List.setIfInBounds_toArray, List.set_cons_zero, List.set_cons_succ]
                refine takeH_at 32 181 (.bool true) rfl rfl (by kernel_rfl) (by kernel_rfl) (by kernel_rfl) (fun _ _ _ h => h) (hS0) (Or.inl ⟨by kernel_rfl, fun w' hS' => by obtain ⟨k1, k2⟩ := hS'; go_simp⟩) ?_
                simp only [List.setIfInBounds_toArray, List.set_cons_zero, List.set_cons_succ]
                refine takeH_at 33 182 (.bool true) rfl rfl (by kernel_rfl) (by kernel_rfl) (by kernel_rfl) (fun _ _ _ h => h) (hS0) (Or.inl ⟨by kernel_rfl, fun w' hS' => by obtain ⟨k1, k2⟩ := hS'; go_simp⟩) ?_
                simp only [List.setIfInBounds_toArray, List.set_cons_zero, List.set_cons_succ]
                refine takeH_at 34 183 (.bool true) rfl rfl (by kernel_rfl) (by kernel_rfl) (by kernel_rfl) (fun _ _ _ h => h) (hS0) (Or.inl ⟨by kernel_rfl, fun w' hS' => by obtain ⟨k1, k2⟩ := hS'; go_simp⟩) ?_
                simp only [List.setIfInBounds_toArray, List.set_cons_zero, List.set_cons_succ]
                refine takeH_at 35 184 undef rfl rfl (by kernel_rfl) (by kernel_rfl) (by kernel_rfl) (fun _ _ _ h => h) (hS0) (Or.inr ⟨by kernel_rfl, rfl⟩) ?_
                simp only [List.setIfInBounds_toArray, List.set_cons_zero, List.set_cons_succ]
                refine takeH_at 36 185 undef rfl rfl (by kernel_rfl) (by kernel_rfl) (by kernel_rfl) (fun _ _ _ h => h) (hS0) (Or.inr ⟨by kernel_rfl, rfl⟩) ?_
                simp only [List.setIfInBounds_toArray, List.set_cons_zero, List.set_cons_succ]
                refine takeH_at 37 186 (.bool true) rfl rfl (by kernel_rfl) (by kernel_rfl) (by kernel_rfl) (fun _ _ _ h => h) (hS0) (Or.inl ⟨by kernel_rfl, fun w' hS' => by obtain ⟨k1, k2⟩ := hS'; go_simp⟩) ?_
                simp only [List.setIfInBounds_toArray, List.set_cons_zero, List.set_cons_succ]
                refine takeH_at 38 187 (.bool true) rfl rfl (by kernel_rfl) (by kernel_rfl) (by kernel_rfl) (fun _ _ _ h => h) (hS0) (Or.inl ⟨by kernel_rfl, fun w' hS' => by obtain ⟨k1, k2⟩ := hS'; go_simp⟩) ?_
                simp only [List.setIfInBounds_toArray, List.set_cons_zero, List.set_cons_succ]
                refine takeH_at 39 188 undef rfl rfl (by kernel_rfl) (by kernel_rfl) (by kernel_rfl) (fun _ _ _ h => h) (hS0) (Or.inr ⟨by kernel_rfl, rfl⟩) ?_
                simp only [List.setIfInBounds_toArray, List.set_cons_zero, List.set_cons_succ]
                refine takeH_at 40 189 undef rfl rfl (by kernel_rfl) (by kernel_rfl) (by kernel_rfl) (fun _ _ _ h => h) (hS0) (Or.inr ⟨by kernel_rfl, rfl⟩) ?_
                simp only [List.setIfInBounds_toArray, List.set_cons_zero, List.set_cons_succ]
                refine takeH_at 41 190 (.bool true) rfl rfl (by kernel_rfl) (by kernel_rfl) (by kernel_rfl) (fun _ _ _ h => h) (hS0) (Or.inl ⟨by kernel_rfl, fun w' hS' => by obtain ⟨k1, k2⟩ := hS'; go_simp⟩) ?_
                simp only [List.setIfInBounds_toArray, List.set_cons_zero, List.set_cons_succ]
                refine wpAnyH_done (by kernel_rfl) ?_ _
                refine NoPanic.normal ?_
                have HNX := HNO.out HF.out
                clear hS0
                go_wp2
                have e0 := HKT.out
                refine ⟨⟨k + 1, by omega, by omega, by first | rfl | (simp; done), HNX.out⟩, ?_⟩
                simp [intOf]
                omega
              case pos =>
              have f1 : ((((s3).1 : Nat) : Int) != (((q3).1 : Nat) : Int)) = false := by rw [neF, decide_eq_true e2]; rfl
              have HE1 : Hid (s3 = q3) := e2
              clear e2
              by_cases e3 : ¬ vv = 0
              case neg =>
                have f2 : ((((vv).1 : Nat) : Int) == 0) = true := by rw [zF]; exact decide_eq_true (Classical.not_not.1 e3)
                have HF : Hid (¬ two1 l i k) := fun h => e3 (HTW.out.1.1 h).2.2.1
                clear e3
                refine wp_region_noPanic ?_
                refine wp_region_held_drew (S := fun u => u.cell? ⟨S, 2, none⟩ = some (.int .u8 (s2.1 : Nat)) ∧ u.cell? ⟨S, 3, none⟩ = some (.int .u8 (s3.1 : Nat))) (by kernel_rfl) (hS0) (fun _ => ?_)
                refine takeH_at 0 149 (.pointer (some ⟨S, 2, none⟩)) rfl rfl (by kernel_rfl) (by kernel_rfl) (by kernel_rfl) (fun _ _ _ h => h) (hS0) (Or.inl ⟨by kernel_rfl, fun w' hS' => by obtain ⟨k1, k2⟩ := hS'; go_simp⟩) ?_
                simp only [List.setIfInBounds_toArray, List.set_cons_zero, List.set_cons_succ]
                refine takeH_at 1 150 (.int .u8 ((s2).1 : Nat)) rfl rfl (by kernel_rfl) (by kernel_rfl) (by kernel_rfl) (fun _ _ _ h => h) (hS0) (Or.inl ⟨by kernel_rfl, fun w' hS' => by obtain ⟨k1, k2⟩ := hS'; go_simp⟩) ?_
                simp only [List.setIfInBounds_toArray, List.set_cons_zero, List.set_cons_succ]
                refine takeH_at 2 151 (.int .u8 ((vv).1 : Nat)) rfl rfl (by kernel_rfl) (by kernel_rfl) (by kernel_rfl) (fun _ _ _ h => h) (hS0) (Or.inl ⟨by kernel_rfl, fun w' hS' => by obtain ⟨k1, k2⟩ := hS'; go_simp⟩) ?_
                simp only [List.setIfInBounds_toArray, List.set_cons_zero, List.set_cons_succ]
                refine takeH_at 3 152 (.int .u8 ((x).1 : Nat)) rfl rfl (by kernel_rfl) (by kernel_rfl) (by kernel_rfl) (fun _ _ _ h => h) (hS0) (Or.inl ⟨by kernel_rfl, fun w' hS' => by obtain ⟨k1, k2⟩ := hS'; go_simp⟩) ?_
                simp only [List.setIfInBounds_toArray, List.set_cons_zero, List.set_cons_succ]
                refine takeH_at 4 153 (.int .u8 ((x).1 : Nat)) rfl rfl (by kernel_rfl) (by kernel_rfl) (by kernel_rfl) (fun _ _ _ h => h) (hS0) (Or.inl ⟨by kernel_rfl, fun w' hS' => by obtain ⟨k1, k2⟩ := hS'; go_simp⟩) ?_
                simp only [List.setIfInBounds_toArray, List.set_cons_zero, List.set_cons_succ]
                refine takeH_at 7 156 (.int .u8 ((ww).1 : Nat)) rfl rfl (by kernel_rfl) (by kernel_rfl) (by kernel_rfl) (fun _ _ _ h => h) (hS0) (Or.inl ⟨by kernel_rfl, fun w' hS' => by obtain ⟨k1, k2⟩ := hS'; go_simp⟩) ?_
                simp only [List.setIfInBounds_toArray, List.set_cons_zero, List.set_cons_succ]
                refine takeH_at 8 157 (.int .u8 ((y).1 : Nat)) rfl rfl (by kernel_rfl) (by kernel_rfl) (by kernel_rfl) (fun _ _ _ h => h) (hS0) (Or.inl ⟨by kernel_rfl, fun w' hS' => by obtain ⟨k1, k2⟩ := hS'; go_simp⟩) ?_
                simp only [List.setIfInBounds_toArray, List.set_cons_zero, List.set_cons_succ]
                refine takeH_at 9 158 (.int .u8 ((y).1 : Nat)) rfl rfl (by kernel_rfl) (by kernel_rfl) (by kernel_rfl) (fun _ _ _ h => h) (hS0) (Or.inl ⟨by kernel_rfl, fun w' hS' => by obtain ⟨k1, k2⟩ := hS'; go_simp⟩) ?_
                simp only [List.setIfInBounds_toArray, List.set_cons_zero, List.set_cons_succ]
                refine wpAnyH_ready (rs := [5]) (by kernel_rfl) (by simp) ?_
                refine AllReadyH.cons rfl (fun Kx hK => ?_) AllReadyH.nil
                rw [if_pos (by kernel_rfl)]
                go_simp
                refine (HCL.out x x xx _ Hxx.out).mono ?_
                rintro e1 q1 ⟨rfl, hw1⟩
                obtain rfl := hw1.symm
                clear hw1
                go_wp2_with fail
                refine hK.out _ _ hS0 (fun _ => ?_)
                clear hK Kx
                try simp only [Act.put, List.setIfInBounds_toArray, List.set_cons_zero, List.set_cons_succ]
                refine wpAnyH_ready (rs := [6]) (by kernel_rfl) (by simp) ?_
                refine AllReadyH.cons rfl (fun Kx hK => ?_) AllReadyH.nil
                rw [if_pos (by kernel_rfl)]
                go_simp
                refine (HCL.out vv xx vxx _ Hvxx.out).mono ?_
                rintro e1 q1 ⟨rfl, hw1⟩
                obtain rfl := hw1.symm
                clear hw1
                go_wp2_with fail
                refine hK.out _ _ hS0 (fun _ => ?_)
                clear hK Kx
                try simp only [Act.put, List.setIfInBounds_toArray, List.set_cons_zero, List.set_cons_succ]
                refine wpAnyH_ready (rs := [10]) (by kernel_rfl) (by simp) ?_
                refine AllReadyH.cons rfl (fun Kx hK => ?_) AllReadyH.nil
                rw [if_pos (by kernel_rfl)]
                go_simp
                refine (HCL.out y y yy _ Hyy.out).mono ?_
                rintro e1 q1 ⟨rfl, hw1⟩
                obtain rfl := hw1.symm
                clear hw1
                go_wp2_with fail
                refine hK.out _ _ hS0 (fun _ => ?_)
                clear hK Kx
                try simp only [Act.put, List.setIfInBounds_toArray, List.set_cons_zero, List.set_cons_succ]
                refine wpAnyH_ready (rs := [11]) (by kernel_rfl) (by simp) ?_
                refine AllReadyH.cons rfl (fun Kx hK => ?_) AllReadyH.nil
                rw [if_pos (by kernel_rfl)]
                go_simp
                refine (HCL.out ww yy wyy _ Hwyy.out).mono ?_
                rintro e1 q1 ⟨rfl, hw1⟩
                obtain rfl := hw1.symm
                clear hw1
                go_wp2_with fail
                refine hK.out _ _ hS0 (fun _ => ?_)
                clear hK Kx
                try simp only [Act.put, List.setIfInBounds_toArray, List.set_cons_zero, List.set_cons_succ]
                refine takeH_at 12 161 (.int .u8 ((q2).1 : Nat)) rfl rfl (by kernel_rfl) (by kernel_rfl) (by kernel_rfl) (fun _ _ _ h => h) (hS0) (Or.inl ⟨by kernel_rfl, fun w' hS' => by obtain ⟨k1, k2⟩ := hS'; go_simp⟩) ?_
                simp only [List.setIfInBounds_toArray, List.set_cons_zero, List.set_cons_succ]
                refine takeH_at 13 162 (.bool false) rfl rfl (by kernel_rfl) (by kernel_rfl) (by kernel_rfl) (fun _ _ _ h => h) (hS0) (Or.inl ⟨by kernel_rfl, fun w' hS' => by obtain ⟨k1, k2⟩ := hS'; go_simp⟩) ?_
                simp only [List.setIfInBounds_toArray, List.set_cons_zero, List.set_cons_succ]
                refine takeH_at 14 163 (.bool false) rfl rfl (by kernel_rfl) (by kernel_rfl) (by kernel_rfl) (fun _ _ _ h => h) (hS0) (Or.inl ⟨by kernel_rfl, fun w' hS' => by obtain ⟨k1, k2⟩ := hS'; go_simp⟩) ?_
                simp only [List.setIfInBounds_toArray, List.set_cons_zero, List.set_cons_succ]
                refine takeH_at 15 164 (.pointer (some ⟨S, 3, none⟩)) rfl rfl (by kernel_rfl) (by kernel_rfl) (by kernel_rfl) (fun _ _ _ h => h) (hS0) (Or.inl ⟨by kernel_rfl, fun w' hS' => by obtain ⟨k1, k2⟩ := hS'; go_simp⟩) ?_
                simp only [List.setIfInBounds_toArray, List.set_cons_zero, List.set_cons_succ]
                refine takeH_at 16 165 (.int .u8 ((s3).1 : Nat)) rfl rfl (by kernel_rfl) (by kernel_rfl) (by kernel_rfl) (fun _ _ _ h => h) (hS0) (Or.inl ⟨by kernel_rfl, fun w' hS' => by obtain ⟨k1, k2⟩ := hS'; go_simp⟩) ?_
                simp only [List.setIfInBounds_toArray, List.set_cons_zero, List.set_cons_succ]
                refine takeH_at 17 166 (.int .u8 ((vv).1 : Nat)) rfl rfl (by kernel_rfl) (by kernel_rfl) (by kernel_rfl) (fun _ _ _ h => h) (hS0) (Or.inl ⟨by kernel_rfl, fun w' hS' => by obtain ⟨k1, k2⟩ := hS'; go_simp⟩) ?_
                simp only [List.setIfInBounds_toArray, List.set_cons_zero, List.set_cons_succ]
                refine takeH_at 18 167 (.int .u8 ((x).1 : Nat)) rfl rfl (by kernel_rfl) (by kernel_rfl) (by kernel_rfl) (fun _ _ _ h => h) (hS0) (Or.inl ⟨by kernel_rfl, fun w' hS' => by obtain ⟨k1, k2⟩ := hS'; go_simp⟩) ?_
                simp only [List.setIfInBounds_toArray, List.set_cons_zero, List.set_cons_succ]
                refine takeH_at 19 168 (.int .u8 ((x).1 : Nat)) rfl rfl (by kernel_rfl) (by kernel_rfl) (by kernel_rfl) (fun _ _ _ h => h) (hS0) (Or.inl ⟨by kernel_rfl, fun w' hS' => by obtain ⟨k1, k2⟩ := hS'; go_simp⟩) ?_
                simp only [List.setIfInBounds_toArray, List.set_cons_zero, List.set_cons_succ]
                refine takeH_at 20 169 (.int .u8 ((x).1 : Nat)) rfl rfl (by kernel_rfl) (by kernel_rfl) (by kernel_rfl) (fun _ _ _ h => h) (hS0) (Or.inl ⟨by kernel_rfl, fun w' hS' => by obtain ⟨k1, k2⟩ := hS'; go_simp⟩) ?_
                simp only [List.setIfInBounds_toArray, List.set_cons_zero, List.set_cons_succ]
                refine takeH_at 24 173 (.int .u8 ((ww).1 : Nat)) rfl rfl (by kernel_rfl) (by kernel_rfl) (by kernel_rfl) (fun _ _ _ h => h) (hS0) (Or.inl ⟨by kernel_rfl, fun w' hS' => by obtain ⟨k1, k2⟩ := hS'; go_simp⟩) ?_
                simp only [List.setIfInBounds_toArray, List.set_cons_zero, List.set_cons_succ]
                refine takeH_at 25 174 (.int .u8 ((y).1 : Nat)) rfl rfl (by kernel_rfl) (by kernel_rfl) (by kernel_rfl) (fun _ _ _ h => h) (hS0) (Or.inl ⟨by kernel_rfl, fun w' hS' => by obtain ⟨k1, k2⟩ := hS'; go_simp⟩) ?_
                simp only [List.setIfInBounds_toArray, List.set_cons_zero, List.set_cons_succ]
                refine takeH_at 26 175 (.int .u8 ((y).1 : Nat)) rfl rfl (by kernel_rfl) (by kernel_rfl) (by kernel_rfl) (fun _ _ _ h => h) (hS0) (Or.inl ⟨by kernel_rfl, fun w' hS' => by obtain ⟨k1, k2⟩ := hS'; go_simp⟩) ?_
                simp only [List.setIfInBounds_toArray, List.set_cons_zero, List.set_cons_succ]
                refine takeH_at 27 176 (.int .u8 ((y).1 : Nat)) rfl rfl (by kernel_rfl) (by kernel_rfl) (by kernel_rfl) (fun _ _ _ h => h) (hS0) (Or.inl ⟨by kernel_rfl, fun w' hS' => by obtain ⟨k1, k2⟩ := hS'; go_simp⟩) ?_
                simp only [List.setIfInBounds_toArray, List.set_cons_zero, List.set_cons_succ]
                refine wpAnyH_ready (rs := [21]) (by kernel_rfl) (by simp) ?_
                refine AllReadyH.cons rfl (fun Kx hK => ?_) AllReadyH.nil
                rw [if_pos (by kernel_rfl)]
                go_simp
                refine (HCL.out x x xx _ Hxx.out).mono ?_
                rintro e1 q1 ⟨rfl, hw1⟩
                obtain rfl := hw1.symm
                clear hw1
                go_wp2_with fail
                refine hK.out _ _ hS0 (fun _ => ?_)
                clear hK Kx
                try simp only [Act.put, List.setIfInBounds_toArray, List.set_cons_zero, List.set_cons_succ]
                refine wpAnyH_ready (rs := [22]) (by kernel_rfl) (by simp) ?_
                refine AllReadyH.cons rfl (fun Kx hK => ?_) AllReadyH.nil
                rw [if_pos (by kernel_rfl)]
                go_simp
                refine (HCL.out x xx xxx _ Hxxx.out).mono ?_
                rintro e1 q1 ⟨rfl, hw1⟩
                obtain rfl := hw1.symm
                clear hw1
                go_wp2_with fail
                refine hK.out _ _ hS0 (fun _ => ?_)
                clear hK Kx
                try simp only [Act.put, List.setIfInBounds_toArray, List.set_cons_zero, List.set_cons_succ]
                refine wpAnyH_ready (rs := [23]) (by kernel_rfl) (by simp) ?_
                refine AllReadyH.cons rfl (fun Kx hK => ?_) AllReadyH.nil
                rw [if_pos (by kernel_rfl)]
                go_simp
                refine (HCL.out vv xxx vx3 _ Hvx3.out).mono ?_
                rintro e1 q1 ⟨rfl, hw1⟩
                obtain rfl := hw1.symm
                clear hw1
                go_wp2_with fail
                refine hK.out _ _ hS0 (fun _ => ?_)
                clear hK Kx
                try simp only [Act.put, List.setIfInBounds_toArray, List.set_cons_zero, List.set_cons_succ]
                refine wpAnyH_ready (rs := [28]) (by kernel_rfl) (by simp) ?_
                refine AllReadyH.cons rfl (fun Kx hK => ?_) AllReadyH.nil
                rw [if_pos (by kernel_rfl)]
                go_simp
                refine (HCL.out y y yy _ Hyy.out).mono ?_
                rintro e1 q1 ⟨rfl, hw1⟩
                obtain rfl := hw1.symm
                clear hw1
                go_wp2_with fail
                refine hK.out _ _ hS0 (fun _ => ?_)
                clear hK Kx
                try simp only [Act.put, List.setIfInBounds_toArray, List.set_cons_zero, List.set_cons_succ]
                refine wpAnyH_ready (rs := [29]) (by kernel_rfl) (by simp) ?_
                refine AllReadyH.cons rfl (fun Kx hK => ?_) AllReadyH.nil
                rw [if_pos (by kernel_rfl)]
                go_simp
                refine (HCL.out y yy yyy _ Hyyy.out).mono ?_
                rintro e1 q1 ⟨rfl, hw1⟩
                obtain rfl := hw1.symm
                clear hw1
                go_wp2_with fail
                refine hK.out _ _ hS0 (fun _ => ?_)
                clear hK Kx
                try simp only [Act.put, List.setIfInBounds_toArray, List.set_cons_zero, List.set_cons_succ]
                refine wpAnyH_ready (rs := [30]) (by kernel_rfl) (by simp) ?_
                refine AllReadyH.cons rfl (fun Kx hK => ?_) AllReadyH.nil
                rw [if_pos (by kernel_rfl)]
                go_simp
                refine (HCL.out ww yyy wy3 _ Hwy3.out).mono ?_
                rintro e1 q1 ⟨rfl, hw1⟩
                obtain rfl := hw1.symm
                clear hw1
                go_wp2_with fail
                refine hK.out _ _ hS0 (fun _ => ?_)
                clear hK Kx
                try simp only [Act.put, List.setIfInBounds_toArray, List.set_cons_zero, List.set_cons_succ]
                refine takeH_at 31 180 (.int .u8 ((q3).1 : Nat)) rfl rfl (by kernel_rfl) (by kernel_rfl) (by kernel_rfl) (fun _ _ _ h => h) (hS0) (Or.inl ⟨by kernel_rfl, fun w' hS' => by obtain ⟨k1, k2⟩ := hS'; go_simp⟩) ?_
                simp only [List.setIfInBounds_toArray, List.set_cons_zero, List.set_cons_succ]
                refine takeH_at 32 181 (.bool false) rfl rfl (by kernel_rfl) (by kernel_rfl) (by kernel_rfl) (fun _ _ _ h => h) (hS0) (Or.inl ⟨by kernel_rfl, fun w' hS' => by obtain ⟨k1, k2⟩ := hS'; go_simp⟩) ?_
                simp only [List.setIfInBounds_toArray, List.set_cons_zero, List.set_cons_succ]
                refine takeH_at 33 182 (.bool false) rfl rfl (by kernel_rfl) (by kernel_rfl) (by kernel_rfl) (fun _ _ _ h => h) (hS0) (Or.inl ⟨by kernel_rfl, fun w' hS' => by obtain ⟨k1, k2⟩ := hS'; go_simp⟩) ?_
                simp only [List.setIfInBounds_toArray, List.set_cons_zero, List.set_cons_succ]
                refine takeH_at 34 183 (.bool false) rfl rfl (by kernel_rfl) (by kernel_rfl) (by kernel_rfl) (fun _ _ _ h => h) (hS0) (Or.inl ⟨by kernel_rfl, fun w' hS' => by obtain ⟨k1, k2⟩ := hS'; go_simp⟩) ?_
                simp only [List.setIfInBounds_toArray, List.set_cons_zero, List.set_cons_succ]
                refine takeH_at 35 184 (.int .u8 ((vv).1 : Nat)) rfl rfl (by kernel_rfl) (by kernel_rfl) (by kernel_rfl) (fun _ _ _ h => h) (hS0) (Or.inl ⟨by kernel_rfl, fun w' hS' => by obtain ⟨k1, k2⟩ := hS'; go_simp⟩) ?_
                simp only [List.setIfInBounds_toArray, List.set_cons_zero, List.set_cons_succ]
                refine takeH_at 36 185 (.bool true) rfl rfl (by kernel_rfl) (by kernel_rfl) (by kernel_rfl) (fun _ _ _ h => h) (hS0) (Or.inl ⟨by kernel_rfl, fun w' hS' => by obtain ⟨k1, k2⟩ := hS'; go_simp⟩) ?_
                simp only [List.setIfInBounds_toArray, List.set_cons_zero, List.set_cons_succ]
                refine takeH_at 37 186 (.bool true) rfl rfl (by kernel_rfl) (by kernel_rfl) (by kernel_rfl) (fun _ _ _ h => h) (hS0) (Or.inl ⟨by kernel_rfl, fun w' hS' => by obtain ⟨k1, k2⟩ := hS'; go_simp⟩) ?_
                simp only [List.setIfInBounds_toArray, List.set_cons_zero, List.set_cons_succ]
                refine takeH_at 38 187 (.bool true) rfl rfl (by kernel_rfl) (by kernel_rfl) (by kernel_rfl) (fun _ _ _ h => h) (hS0) (Or.inl ⟨by kernel_rfl, fun w' hS' => by obtain ⟨k1, k2⟩ := hS'; go_simp⟩) ?_
                simp only [List.setIfInBounds_toArray, List.set_cons_zero, List.set_cons_succ]
                refine takeH_at 39 188 undef rfl rfl (by kernel_rfl) (by kernel_rfl) (by kernel_rfl) (fun _ _ _ h => h) (hS0) (Or.inr ⟨by kernel_rfl, rfl⟩) ?_
                simp only [List.setIfInBounds_toArray, List.set_cons_zero, List.set_cons_succ]
                refine takeH_at 40 189 undef rfl rfl (by kernel_rfl) (by kernel_rfl) (by kernel_rfl) (fun _ _ _ h => h) (hS0) (Or.inr ⟨by kernel_rfl, rfl⟩) ?_
                simp only [List.setIfInBounds_toArray, List.set_cons_zero, List.set_cons_succ]
                refine takeH_at 41 190 (.bool true) rfl rfl (by kernel_rfl) (by kernel_rfl) (by kernel_rfl) (fun _ _ _ h => h) (hS0) (Or.inl ⟨by kernel_rfl, fun w' hS' => by obtain ⟨k1, k2⟩ := hS'; go_simp⟩) ?_
                simp only [List.setIfInBounds_toArray, List.set_cons_zero, List.set_cons_succ]
                refine wpAnyH_done (by kernel_rfl) ?_ _
                refine NoPanic.normal ?_
                have HNX := HNO.out HF.out
                clear hS0
                go_wp2
                have e0 := HKT.out
                refine ⟨⟨k + 1, by omega, by omega, by first | rfl | (simp; done), HNX.out⟩, ?_⟩
                simp [intOf]
                omega
              case pos =>
              have f2 : ((((vv).1 : Nat) : Int) == 0) = false := by rw [zF]; exact decide_eq_false e3
              have HE2 : Hid (¬ vv = 0) := e3
              clear e3
              by_cases e4 : ¬ ww = 0
              case neg =>
                have f3 : ((((ww).1 : Nat) : Int) == 0) = true := by rw [zF]; exact decide_eq_true (Classical.not_not.1 e4)
                have HF : Hid (¬ two1 l i k) := fun h => e4 (HTW.out.1.1 h).2.2.2
                clear e4
                refine wp_region_noPanic ?_
                refine wp_region_held_drew (S := fun u => u.cell? ⟨S, 2, none⟩ = some (.int .u8 (s2.1 : Nat)) ∧ u.cell? ⟨S, 3, none⟩ = some (.int .u8 (s3.1 : Nat))) (by kernel_rfl) (hS0) (fun _ => ?_)
                refine takeH_at 0 149 (.pointer (some ⟨S, 2, none⟩)) rfl rfl (by kernel_rfl) (by kernel_rfl) (by kernel_rfl) (fun _ _ _ h => h) (hS0) (Or.inl ⟨by kernel_rfl, fun w' hS' => by obtain ⟨k1, k2⟩ := hS'; go_simp⟩) ?_
                simp only [List.setIfInBounds_toArray, List.set_cons_zero, List.set_cons_succ]
                refine takeH_at 1 150 (.int .u8 ((s2).1 : Nat)) rfl rfl (by kernel_rfl) (by kernel_rfl) (by kernel_rfl) (fun _ _ _ h => h) (hS0) (Or.inl ⟨by kernel_rfl, fun w' hS' => by obtain ⟨k1, k2⟩ := hS'; go_simp⟩) ?_
                simp only [List.setIfInBounds_toArray, List.set_cons_zero, List.set_cons_succ]
                refine takeH_at 2 151 (.int .u8 ((vv).1 : Nat)) rfl rfl (by kernel_rfl) (by kernel_rfl) (by kernel_rfl) (fun _ _ _ h => h) (hS0) (Or.inl ⟨by kernel_rfl, fun w' hS' => by obtain ⟨k1, k2⟩ := hS'; go_simp⟩) ?_
                simp only [List.setIfInBounds_toArray, List.set_cons_zero, List.set_cons_succ]
                refine takeH_at 3 152 (.int .u8 ((x).1 : Nat)) rfl rfl (by kernel_rfl) (by kernel_rfl) (by kernel_rfl) (fun _ _ _ h => h) (hS0) (Or.inl ⟨by kernel_rfl, fun w' hS' => by obtain ⟨k1, k2⟩ := hS'; go_simp⟩) ?_
                simp only [List.setIfInBounds_toArray, List.set_cons_zero, List.set_cons_succ]
                refine takeH_at 4 153 (.int .u8 ((x).1 : Nat)) rfl rfl (by kernel_rfl) (by kernel_rfl) (by kernel_rfl) (fun _ _ _ h => h) (hS0) (Or.inl ⟨by kernel_rfl, fun w' hS' => by obtain ⟨k1, k2⟩ := hS'; go_simp⟩) ?_
                simp only [List.setIfInBounds_toArray, List.set_cons_zero, List.set_cons_succ]
                refine takeH_at 7 156 (.int .u8 ((ww).1 : Nat)) rfl rfl (by kernel_rfl) (by kernel_rfl) (by kernel_rfl) (fun _ _ _ h => h) (hS0) (Or.inl ⟨by kernel_rfl, fun w' hS' => by obtain ⟨k1, k2⟩ := hS'; go_simp⟩) ?_
                simp only [List.setIfInBounds_toArray, List.set_cons_zero, List.set_cons_succ]
                refine takeH_at 8 157 (.int .u8 ((y).1 : Nat)) rfl rfl (by kernel_rfl) (by kernel_rfl) (by kernel_rfl) (fun _ _ _ h => h) (hS0) (Or.inl ⟨by kernel_rfl, fun w' hS' => by obtain ⟨k1, k2⟩ := hS'; go_simp⟩) ?_
                simp only [List.setIfInBounds_toArray, List.set_cons_zero, List.set_cons_succ]
                refine takeH_at 9 158 (.int .u8 ((y).1 : Nat)) rfl rfl (by kernel_rfl) (by kernel_rfl) (by kernel_rfl) (fun _ _ _ h => h) (hS0) (Or.inl ⟨by kernel_rfl, fun w' hS' => by obtain ⟨k1, k2⟩ := hS'; go_simp⟩) ?_
                simp only [List.setIfInBounds_toArray, List.set_cons_zero, List.set_cons_succ]
                refine wpAnyH_ready (rs := [5]) (by kernel_rfl) (by simp) ?_
                refine AllReadyH.cons rfl (fun Kx hK => ?_) AllReadyH.nil
                rw [if_pos (by kernel_rfl)]
                go_simp
                refine (HCL.out x x xx _ Hxx.out).mono ?_
                rintro e1 q1 ⟨rfl, hw1⟩
                obtain rfl := hw1.symm
                clear hw1
                go_wp2_with fail
                refine hK.out _ _ hS0 (fun _ => ?_)
                clear hK Kx
                try simp only [Act.put, List.setIfInBounds_toArray, List.set_cons_zero, List.set_cons_succ]
                refine wpAnyH_ready (rs := [6]) (by kernel_rfl) (by simp) ?_
                refine AllReadyH.cons rfl (fun Kx hK => ?_) AllReadyH.nil
                rw [if_pos (by kernel_rfl)]
                go_simp
                refine (HCL.out vv xx vxx _ Hvxx.out).mono ?_
                rintro e1 q1 ⟨rfl, hw1⟩
                obtain rfl := hw1.symm
                clear hw1
                go_wp2_with fail
                refine hK.out _ _ hS0 (fun _ => ?_)
                clear hK Kx
                try simp only [Act.put, List.setIfInBounds_toArray, List.set_cons_zero, List.set_cons_succ]
                refine wpAnyH_ready (rs := [10]) (by kernel_rfl) (by simp) ?_
                refine AllReadyH.cons rfl (fun Kx hK => ?_) AllReadyH.nil
                rw [if_pos (by kernel_rfl)]
                go_simp
                refine (HCL.out y y yy _ Hyy.out).mono ?_
                rintro e1 q1 ⟨rfl, hw1⟩
                obtain rfl := hw1.symm
                clear hw1
                go_wp2_with fail
                refine hK.out _ _ hS0 (fun _ => ?_)
                clear hK Kx
                try simp only [Act.put, List.setIfInBounds_toArray, List.set_cons_zero, List.set_cons_succ]
                refine wpAnyH_ready (rs := [11]) (by kernel_rfl) (by simp) ?_
                refine AllReadyH.cons rfl (fun Kx hK => ?_) AllReadyH.nil
                rw [if_pos (by kernel_rfl)]
                go_simp
                refine (HCL.out ww yy wyy _ Hwyy.out).mono ?_
                rintro e1 q1 ⟨rfl, hw1⟩
                obtain rfl := hw1.symm
                clear hw1
                go_wp2_with fail
                refine hK.out _ _ hS0 (fun _ => ?_)
                clear hK Kx
                try simp only [Act.put, List.setIfInBounds_toArray, List.set_cons_zero, List.set_cons_succ]
                refine takeH_at 12 161 (.int .u8 ((q2).1 : Nat)) rfl rfl (by kernel_rfl) (by kernel_rfl) (by kernel_rfl) (fun _ _ _ h => h) (hS0) (Or.inl ⟨by kernel_rfl, fun w' hS' => by obtain ⟨k1, k2⟩ := hS'; go_simp⟩) ?_
                simp only [List.setIfInBounds_toArray, List.set_cons_zero, List.set_cons_succ]
                refine takeH_at 13 162 (.bool false) rfl rfl (by kernel_rfl) (by kernel_rfl) (by kernel_rfl) (fun _ _ _ h => h) (hS0) (Or.inl ⟨by kernel_rfl, fun w' hS' => by obtain ⟨k1, k2⟩ := hS'; go_simp⟩) ?_
                simp only [List.setIfInBounds_toArray, List.set_cons_zero, List.set_cons_succ]
                refine takeH_at 14 163 (.bool false) rfl rfl (by kernel_rfl) (by kernel_rfl) (by kernel_rfl) (fun _ _ _ h => h) (hS0) (Or.inl ⟨by kernel_rfl, fun w' hS' => by obtain ⟨k1, k2⟩ := hS'; go_simp⟩) ?_
                simp only [List.setIfInBounds_toArray, List.set_cons_zero, List.set_cons_succ]
                refine takeH_at 15 164 (.pointer (some ⟨S, 3, none⟩)) rfl rfl (by kernel_rfl) (by kernel_rfl) (by kernel_rfl) (fun _ _ _ h => h) (hS0) (Or.inl ⟨by kernel_rfl, fun w' hS' => by obtain ⟨k1, k2⟩ := hS'; go_simp⟩) ?_
                simp only [List.setIfInBounds_toArray, List.set_cons_zero, List.set_cons_succ]
                refine takeH_at 16 165 (.int .u8 ((s3).1 : Nat)) rfl rfl (by kernel_rfl) (by kernel_rfl) (by kernel_rfl) (fun _ _ _ h => h) (hS0) (Or.inl ⟨by kernel_rfl, fun w' hS' => by obtain ⟨k1, k2⟩ := hS'; go_simp⟩) ?_
                simp only [List.setIfInBounds_toArray, List.set_cons_zero, List.set_cons_succ]
                refine takeH_at 17 166 (.int .u8 ((vv).1 : Nat)) rfl rfl (by kernel_rfl) (by kernel_rfl) (by kernel_rfl) (fun _ _ _ h => h) (hS0) (Or.inl ⟨by kernel_rfl, fun w' hS' => by obtain ⟨k1, k2⟩ := hS'; go_simp⟩) ?_
                simp only [List.setIfInBounds_toArray, List.set_cons_zero, List.set_cons_succ]
                refine takeH_at 18 167 (.int .u8 ((x).1 : Nat)) rfl rfl (by kernel_rfl) (by kernel_rfl) (by kernel_rfl) (fun _ _ _ h => h) (hS0) (Or.inl ⟨by kernel_rfl, fun w' hS' => by obtain ⟨k1, k2⟩ := hS'; go_simp⟩) ?_
                simp only [List.setIfInBounds_toArray, List.set_cons_zero, List.set_cons_succ]
                refine takeH_at 19 168 (.int .u8 ((x).1 : Nat)) rfl rfl (by kernel_rfl) (by kernel_rfl) (by kernel_rfl) (fun _ _ _ h => h) (hS0) (Or.inl ⟨by kernel_rfl, fun w' hS' => by obtain ⟨k1, k2⟩ := hS'; go_simp⟩) ?_
                simp only [List.setIfInBounds_toArray, List.set_cons_zero, List.set_cons_succ]
                refine takeH_at 20 169 (.int .u8 ((x).1 : Nat)) rfl rfl (by kernel_rfl) (by kernel_rfl) (by kernel_rfl) (fun _ _ _ h => h) (hS0) (Or.inl ⟨by kernel_rfl, fun w' hS' => by obtain ⟨k1, k2⟩ := hS'; go_simp⟩) ?_
                simp only [List.setIfInBounds_toArray, List.set_cons_zero, List.set_cons_succ]
                refine takeH_at 24 173 (.int .u8 ((ww).1 : Nat)) rfl rfl (by kernel_rfl) (by kernel_rfl) (by kernel_rfl) (fun _ _ _ h => h) (hS0) (Or.inl ⟨by kernel_rfl, fun w' hS' => by obtain ⟨k1, k2⟩ := hS'; go_simp⟩) ?_
                simp only [List.setIfInBounds_toArray, List.set_cons_zero, List.set_cons_succ]
                refine takeH_at 25 174 (.int .u8 ((y).1 : Nat)) rfl rfl (by kernel_rfl) (by kernel_rfl) (by kernel_rfl) (fun _ _ _ h => h) (hS0) (Or.inl ⟨by kernel_rfl, fun w' hS' => by obtain ⟨k1, k2⟩ := hS'; go_simp⟩) ?_
                simp only [List.setIfInBounds_toArray, List.set_cons_zero, List.set_cons_succ]
                refine takeH_at 26 175 (.int .u8 ((y).1 : Nat)) rfl rfl (by kernel_rfl) (by kernel_rfl) (by kernel_rfl) (fun _ _ _ h => h) (hS0) (Or.inl ⟨by kernel_rfl, fun w' hS' => by obtain ⟨k1, k2⟩ := hS'; go_simp⟩) ?_
                simp only [List.setIfInBounds_toArray, List.set_cons_zero, List.set_cons_succ]
                refine takeH_at 27 176 (.int .u8 ((y).1 : Nat)) rfl rfl (by kernel_rfl) (by kernel_rfl) (by kernel_rfl) (fun _ _ _ h => h) (hS0) (Or.inl ⟨by kernel_rfl, fun w' hS' => by obtain ⟨k1, k2⟩ := hS'; go_simp⟩) ?_
                simp only [List.setIfInBounds_toArray, List.set_cons_zero, List.set_cons_succ]
                refine wpAnyH_ready (rs := [21]) (by kernel_rfl) (by simp) ?_
                refine AllReadyH.cons rfl (fun Kx hK => ?_) AllReadyH.nil
                rw [if_pos (by kernel_rfl)]
                go_simp
                refine (HCL.out x x xx _ Hxx.out).mono ?_
                rintro e1 q1 ⟨rfl, hw1⟩
                obtain rfl := hw1.symm
                clear hw1
                go_wp2_with fail
                refine hK.out _ _ hS0 (fun _ => ?_)
                clear hK Kx
                try simp only [Act.put, List.setIfInBounds_toArray, List.set_cons_zero, List.set_cons_succ]
                refine wpAnyH_ready (rs := [22]) (by kernel_rfl) (by simp) ?_
                refine AllReadyH.cons rfl (fun Kx hK => ?_) AllReadyH.nil
                rw [if_pos (by kernel_rfl)]
                go_simp
                refine (HCL.out x xx xxx _ Hxxx.out).mono ?_
                rintro e1 q1 ⟨rfl, hw1⟩
                obtain rfl := hw1.symm
                clear hw1
                go_wp2_with fail
                refine hK.out _ _ hS0 (fun _ => ?_)
                clear hK Kx
                try simp only [Act.put, List.setIfInBounds_toArray, List.set_cons_zero, List.set_cons_succ]
                refine wpAnyH_ready (rs := [23]) (by kernel_rfl) (by simp) ?_
                refine AllReadyH.cons rfl (fun Kx hK => ?_) AllReadyH.nil
                rw [if_pos (by kernel_rfl)]
                go_simp
                refine (HCL.out vv xxx vx3 _ Hvx3.out).mono ?_
                rintro e1 q1 ⟨rfl, hw1⟩
                obtain rfl := hw1.symm
                clear hw1
                go_wp2_with fail
                refine hK.out _ _ hS0 (fun _ => ?_)
                clear hK Kx
                try simp only [Act.put, List.setIfInBounds_toArray, List.set_cons_zero, List.set_cons_succ]
                refine wpAnyH_ready (rs := [28]) (by kernel_rfl) (by simp) ?_
                refine AllReadyH.cons rfl (fun Kx hK => ?_) AllReadyH.nil
                rw [if_pos (by kernel_rfl)]
                go_simp
                refine (HCL.out y y yy _ Hyy.out).mono ?_
                rintro e1 q1 ⟨rfl, hw1⟩
                obtain rfl := hw1.symm
                clear hw1
                go_wp2_with fail
                refine hK.out _ _ hS0 (fun _ => ?_)
                clear hK Kx
                try simp only [Act.put, List.setIfInBounds_toArray, List.set_cons_zero, List.set_cons_succ]
                refine wpAnyH_ready (rs := [29]) (by kernel_rfl) (by simp) ?_
                refine AllReadyH.cons rfl (fun Kx hK => ?_) AllReadyH.nil
                rw [if_pos (by kernel_rfl)]
                go_simp
                refine (HCL.out y yy yyy _ Hyyy.out).mono ?_
                rintro e1 q1 ⟨rfl, hw1⟩
                obtain rfl := hw1.symm
                clear hw1
                go_wp2_with fail
                refine hK.out _ _ hS0 (fun _ => ?_)
                clear hK Kx
                try simp only [Act.put, List.setIfInBounds_toArray, List.set_cons_zero, List.set_cons_succ]
                refine wpAnyH_ready (rs := [30]) (by kernel_rfl) (by simp) ?_
                refine AllReadyH.cons rfl (fun Kx hK => ?_) AllReadyH.nil
                rw [if_pos (by kernel_rfl)]
                go_simp
                refine (HCL.out ww yyy wy3 _ Hwy3.out).mono ?_
                rintro e1 q1 ⟨rfl, hw1⟩
                obtain rfl := hw1.symm
                clear hw1
                go_wp2_with fail
                refine hK.out _ _ hS0 (fun _ => ?_)
                clear hK Kx
                try simp only [Act.put, List.setIfInBounds_toArray, List.set_cons_zero, List.set_cons_succ]
                refine takeH_at 31 180 (.int .u8 ((q3).1 : Nat)) rfl rfl (by kernel_rfl) (by kernel_rfl) (by kernel_rfl) (fun _ _ _ h => h) (hS0) (Or.inl ⟨by kernel_rfl, fun w' hS' => by obtain ⟨k1, k2⟩ := hS'; go_simp⟩) ?_
                simp only [List.setIfInBounds_toArray, List.set_cons_zero, List.set_cons_succ]
                refine takeH_at 32 181 (.bool false) rfl rfl (by kernel_rfl) (by kernel_rfl) (by kernel_rfl) (fun _ _ _ h => h) (hS0) (Or.inl ⟨by kernel_rfl, fun w' hS' => by obtain ⟨k1, k2⟩ := hS'; go_simp⟩) ?_
                simp only [List.setIfInBounds_toArray, List.set_cons_zero, List.set_cons_succ]
                refine takeH_at 33 182 (.bool false) rfl rfl (by kernel_rfl) (by kernel_rfl) (by kernel_rfl) (fun _ _ _ h => h) (hS0) (Or.inl ⟨by kernel_rfl, fun w' hS' => by obtain ⟨k1, k2⟩ := hS'; go_simp⟩) ?_
                simp only [List.setIfInBounds_toArray, List.set_cons_zero, List.set_cons_succ]
                refine takeH_at 34 183 (.bool false) rfl rfl (by kernel_rfl) (by kernel_rfl) (by kernel_rfl) (fun _ _ _ h => h) (hS0) (Or.inl ⟨by kernel_rfl, fun w' hS' => by obtain ⟨k1, k2⟩ := hS'; go_simp⟩) ?_
                simp only [List.setIfInBounds_toArray, List.set_cons_zero, List.set_cons_succ]
                refine takeH_at 35 184 (.int .u8 ((vv).1 : Nat)) rfl rfl (by kernel_rfl) (by kernel_rfl) (by kernel_rfl) (fun _ _ _ h => h) (hS0) (Or.inl ⟨by kernel_rfl, fun w' hS' => by obtain ⟨k1, k2⟩ := hS'; go_simp⟩) ?_
                simp only [List.setIfInBounds_toArray, List.set_cons_zero, List.set_cons_succ]
                refine takeH_at 36 185 (.bool false) rfl rfl (by kernel_rfl) (by kernel_rfl) (by kernel_rfl) (fun _ _ _ h => h) (hS0) (Or.inl ⟨by kernel_rfl, fun w' hS' => by obtain ⟨k1, k2⟩ := hS'; go_simp⟩) ?_
                simp only [List.setIfInBounds_toArray, List.set_cons_zero, List.set_cons_succ]
                refine takeH_at 37 186 (.bool false) rfl rfl (by kernel_rfl) (by kernel_rfl) (by kernel_rfl) (fun _ _ _ h => h) (hS0) (Or.inl ⟨by kernel_rfl, fun w' hS' => by obtain ⟨k1, k2⟩ := hS'; go_simp⟩) ?_
                simp only [List.setIfInBounds_toArray, List.set_cons_zero, List.set_cons_succ]
                refine takeH_at 38 187 (.bool false) rfl rfl (by kernel_rfl) (by kernel_rfl) (by kernel_rfl) (fun _ _ _ h => h) (hS0) (Or.inl ⟨by kernel_rfl, fun w' hS' => by obtain ⟨k1, k2⟩ := hS'; go_simp⟩) ?_
                simp only [List.setIfInBounds_toArray, List.set_cons_zero, List.set_cons_succ]
                refine takeH_at 39 188 (.int .u8 ((ww).1 : Nat)) rfl rfl (by kernel_rfl) (by kernel_rfl) (by kernel_rfl) (fun _ _ _ h => h) (hS0) (Or.inl ⟨by kernel_rfl, fun w' hS' => by obtain ⟨k1, k2⟩ := hS'; go_simp⟩) ?_
                simp only [List.setIfInBounds_toArray, List.set_cons_zero, List.set_cons_succ]
                refine takeH_at 40 189 (.bool true) rfl rfl (by kernel_rfl) (by kernel_rfl) (by kernel_rfl) (fun _ _ _ h => h) (hS0) (Or.inl ⟨by kernel_rfl, fun w' hS' => by obtain ⟨k1, k2⟩ := hS'; go_simp⟩) ?_
                simp only [List.setIfInBounds_toArray, List.set_cons_zero, List.set_cons_succ]
                refine takeH_at 41 190 (.bool true) rfl rfl (by kernel_rfl) (by kernel_rfl) (by kernel_rfl) (fun _ _ _ h => h) (hS0) (Or.inl ⟨by kernel_rfl, fun w' hS' => by obtain ⟨k1, k2⟩ := hS'; go_simp⟩) ?_
                simp only [List.setIfInBounds_toArray, List.set_cons_zero, List.set_cons_succ]
                refine wpAnyH_done (by kernel_rfl) ?_ _
                refine NoPanic.normal ?_
                have HNX := HNO.out HF.out
                clear hS0
                go_wp2
                have e0 := HKT.out
                refine ⟨⟨k + 1, by omega, by omega, by first | rfl | (simp; done), HNX.out⟩, ?_⟩
                simp [intOf]
                omega
              case pos =>
              have f3 : ((((ww).1 : Nat) : Int) == 0) = false := by rw [zF]; exact decide_eq_false e4
              have HE3 : Hid (¬ ww = 0) := e4
              clear e4
              refine wp_region_noPanic ?_
              refine wp_region_held_drew (S := fun u => u.cell? ⟨S, 2, none⟩ = some (.int .u8 (s2.1 : Nat)) ∧ u.cell? ⟨S, 3, none⟩ = some (.int .u8 (s3.1 : Nat))) (by kernel_rfl) (hS0) (fun _ => ?_)
              refine takeH_at 0 149 (.pointer (some ⟨S, 2, none⟩)) rfl rfl (by kernel_rfl) (by kernel_rfl) (by kernel_rfl) (fun _ _ _ h => h) (hS0) (Or.inl ⟨by kernel_rfl, fun w' hS' => by obtain ⟨k1, k2⟩ := hS'; go_simp⟩) ?_
              simp only [List.setIfInBounds_toArray, List.set_cons_zero, List.set_cons_succ]
              refine takeH_at 1 150 (.int .u8 ((s2).1 : Nat)) rfl rfl (by kernel_rfl) (by kernel_rfl) (by kernel_rfl) (fun _ _ _ h => h) (hS0) (Or.inl ⟨by kernel_rfl, fun w' hS' => by obtain ⟨k1, k2⟩ := hS'; go_simp⟩) ?_
              simp only [List.setIfInBounds_toArray, List.set_cons_zero, List.set_cons_succ]
              refine takeH_at 2 151 (.int .u8 ((vv).1 : Nat)) rfl rfl (by kernel_rfl) (by kernel_rfl) (by kernel_rfl) (fun _ _ _ h => h) (hS0) (Or.inl ⟨by kernel_rfl, fun w' hS' => by obtain ⟨k1, k2⟩ := hS'; go_simp⟩) ?_
              simp only [List.setIfInBounds_toArray, List.set_cons_zero, List.set_cons_succ]
              refine takeH_at 3 152 (.int .u8 ((x).1 : Nat)) rfl rfl (by kernel_rfl) (by kernel_rfl) (by kernel_rfl) (fun _ _ _ h => h) (hS0) (Or.inl ⟨by kernel_rfl, fun w' hS' => by obtain ⟨k1, k2⟩ := hS'; go_simp⟩) ?_
              simp only [List.setIfInBounds_toArray, List.set_cons_zero, List.set_cons_succ]
              refine takeH_at 4 153 (.int .u8 ((x).1 : Nat)) rfl rfl (by kernel_rfl) (by kernel_rfl) (by kernel_rfl) (fun _ _ _ h => h) (hS0) (Or.inl ⟨by kernel_rfl, fun w' hS' => by obtain ⟨k1, k2⟩ := hS'; go_simp⟩) ?_
              simp only [List.setIfInBounds_toArray, List.set_cons_zero, List.set_cons_succ]
              refine takeH_at 7 156 (.int .u8 ((ww).1 : Nat)) rfl rfl (by kernel_rfl) (by kernel_rfl) (by kernel_rfl) (fun _ _ _ h => h) (hS0) (Or.inl ⟨by kernel_rfl, fun w' hS' => by obtain ⟨k1, k2⟩ := hS'; go_simp⟩) ?_
              simp only [List.setIfInBounds_toArray, List.set_cons_zero, List.set_cons_succ]
              refine takeH_at 8 157 (.int .u8 ((y).1 : Nat)) rfl rfl (by kernel_rfl) (by kernel_rfl) (by kernel_rfl) (fun _ _ _ h => h) (hS0) (Or.inl ⟨by kernel_rfl, fun w' hS' => by obtain ⟨k1, k2⟩ := hS'; go_simp⟩) ?_
              simp only [List.setIfInBounds_toArray, List.set_cons_zero, List.set_cons_succ]
              refine takeH_at 9 158 (.int .u8 ((y).1 : Nat)) rfl rfl (by kernel_rfl) (by kernel_rfl) (by kernel_rfl) (fun _ _ _ h => h) (hS0) (Or.inl ⟨by kernel_rfl, fun w' hS' => by obtain ⟨k1, k2⟩ := hS'; go_simp⟩) ?_
              simp only [List.setIfInBounds_toArray, List.set_cons_zero, List.set_cons_succ]
              refine wpAnyH_ready (rs := [5]) (by kernel_rfl) (by simp) ?_
              refine AllReadyH.cons rfl (fun Kx hK => ?_) AllReadyH.nil
              rw [if_pos (by kernel_rfl)]
              go_simp
              refine (HCL.out x x xx _ Hxx.out).mono ?_
              rintro e1 q1 ⟨rfl, hw1⟩
              obtain rfl := hw1.symm
              clear hw1
              go_wp2_with fail
              refine hK.out _ _ hS0 (fun _ => ?_)
              clear hK Kx
              try simp only [Act.put, List.setIfInBounds_toArray, List.set_cons_zero, List.set_cons_succ]
              refine wpAnyH_ready (rs := [6]) (by kernel_rfl) (by simp) ?_
              refine AllReadyH.cons rfl (fun Kx hK => ?_) AllReadyH.nil
              rw [if_pos (by kernel_rfl)]
              go_simp
              refine (HCL.out vv xx vxx _ Hvxx.out).mono ?_
              rintro e1 q1 ⟨rfl, hw1⟩
              obtain rfl := hw1.symm
              clear hw1
              go_wp2_with fail
              refine hK.out _ _ hS0 (fun _ => ?_)
              clear hK Kx
              try simp only [Act.put, List.setIfInBounds_toArray, List.set_cons_zero, List.set_cons_succ]
              refine wpAnyH_ready (rs := [10]) (by kernel_rfl) (by simp) ?_
              refine AllReadyH.cons rfl (fun Kx hK => ?_) AllReadyH.nil
              rw [if_pos (by kernel_rfl)]
              go_simp
              refine (HCL.out y y yy _ Hyy.out).mono ?_
              rintro e1 q1 ⟨rfl, hw1⟩
              obtain rfl := hw1.symm
              clear hw1
              go_wp2_with fail
              refine hK.out _ _ hS0 (fun _ => ?_)
              clear hK Kx
              try simp only [Act.put, List.setIfInBounds_toArray, List.set_cons_zero, List.set_cons_succ]
              refine wpAnyH_ready (rs := [11]) (by kernel_rfl) (by simp) ?_
              refine AllReadyH.cons rfl (fun Kx hK => ?_) AllReadyH.nil
              rw [if_pos (by kernel_rfl)]
              go_simp
              refine (HCL.out ww yy wyy _ Hwyy.out).mono ?_
              rintro e1 q1 ⟨rfl, hw1⟩
              obtain rfl := hw1.symm
              clear hw1
              go_wp2_with fail
              refine hK.out _ _ hS0 (fun _ => ?_)
              clear hK Kx
              try simp only [Act.put, List.setIfInBounds_toArray, List.set_cons_zero, List.set_cons_succ]
              refine takeH_at 12 161 (.int .u8 ((q2).1 : Nat)) rfl rfl (by kernel_rfl) (by kernel_rfl) (by kernel_rfl) (fun _ _ _ h => h) (hS0) (Or.inl ⟨by kernel_rfl, fun w' hS' => by obtain ⟨k1, k2⟩ := hS'; go_simp⟩) ?_
              simp only [List.setIfInBounds_toArray, List.set_cons_zero, List.set_cons_succ]
              refine takeH_at 13 162 (.bool false) rfl rfl (by kernel_rfl) (by kernel_rfl) (by kernel_rfl) (fun _ _ _ h => h) (hS0) (Or.inl ⟨by kernel_rfl, fun w' hS' => by obtain ⟨k1, k2⟩ := hS'; go_simp⟩) ?_
              simp only [List.setIfInBounds_toArray, List.set_cons_zero, List.set_cons_succ]
              refine takeH_at 14 163 (.bool false) rfl rfl (by kernel_rfl) (by kernel_rfl) (by kernel_rfl) (fun _ _ _ h => h) (hS0) (Or.inl ⟨by kernel_rfl, fun w' hS' => by obtain ⟨k1, k2⟩ := hS'; go_simp⟩) ?_
              simp only [List.setIfInBounds_toArray, List.set_cons_zero, List.set_cons_succ]
              refine takeH_at 15 164 (.pointer (some ⟨S, 3, none⟩)) rfl rfl (by kernel_rfl) (by kernel_rfl) (by kernel_rfl) (fun _ _ _ h => h) (hS0) (Or.inl ⟨by kernel_rfl, fun w' hS' => by obtain ⟨k1, k2⟩ := hS'; go_simp⟩) ?_
              simp only [List.setIfInBounds_toArray, List.set_cons_zero, List.set_cons_succ]
              refine takeH_at 16 165 (.int .u8 ((s3).1 : Nat)) rfl rfl (by kernel_rfl) (by kernel_rfl) (by kernel_rfl) (fun _ _ _ h => h) (hS0) (Or.inl ⟨by kernel_rfl, fun w' hS' => by obtain ⟨k1, k2⟩ := hS'; go_simp⟩) ?_
              simp only [List.setIfInBounds_toArray, List.set_cons_zero, List.set_cons_succ]
              refine takeH_at 17 166 (.int .u8 ((vv).1 : Nat)) rfl rfl (by kernel_rfl) (by kernel_rfl) (by kernel_rfl) (fun _ _ _ h => h) (hS0) (Or.inl ⟨by kernel_rfl, fun w' hS' => by obtain ⟨k1, k2⟩ := hS'; go_simp⟩) ?_
              simp only [List.setIfInBounds_toArray, List.set_cons_zero, List.set_cons_succ]
              refine takeH_at 18 167 (.int .u8 ((x).1 : Nat)) rfl rfl (by kernel_rfl) (by kernel_rfl) (by kernel_rfl) (fun _ _ _ h => h) (hS0) (Or.inl ⟨by kernel_rfl, fun w' hS' => by obtain ⟨k1, k2⟩ := hS'; go_simp⟩) ?_
              simp only [List.setIfInBounds_toArray, List.set_cons_zero, List.set_cons_succ]
              refine takeH_at 19 168 (.int .u8 ((x).1 : Nat)) rfl rfl (by kernel_rfl) (by kernel_rfl) (by kernel_rfl) (fun _ _ _ h => h) (hS0) (Or.inl ⟨by kernel_rfl, fun w' hS' => by obtain ⟨k1, k2⟩ := hS'; go_simp⟩) ?_
              simp only [List.setIfInBounds_toArray, List.set_cons_zero, List.set_cons_succ]
              refine takeH_at 20 169 (.int .u8 ((x).1 : Nat)) rfl rfl (by kernel_rfl) (by kernel_rfl) (by kernel_rfl) (fun _ _ _ h => h) (hS0) (Or.inl ⟨by kernel_rfl, fun w' hS' => by obtain ⟨k1, k2⟩ := hS'; go_simp⟩) ?_
              simp only [List.setIfInBounds_toArray, List.set_cons_zero, List.set_cons_succ]
              refine takeH_at 24 173 (.int .u8 ((ww).1 : Nat)) rfl rfl (by kernel_rfl) (by kernel_rfl) (by kernel_rfl) (fun _ _ _ h => h) (hS0) (Or.inl ⟨by kernel_rfl, fun w' hS' => by obtain ⟨k1, k2⟩ := hS'; go_simp⟩) ?_
              simp only [List.setIfInBounds_toArray, List.set_cons_zero, List.set_cons_succ]
              refine takeH_at 25 174 (.int .u8 ((y).1 : Nat)) rfl rfl (by kernel_rfl) (by kernel_rfl) (by kernel_rfl) (fun _ _ _ h => h) (hS0) (Or.inl ⟨by kernel_rfl, fun w' hS' => by obtain ⟨k1, k2⟩ := hS'; go_simp⟩) ?_
              simp only [List.setIfInBounds_toArray, List.set_cons_zero, List.set_cons_succ]
              refine takeH_at 26 175 (.int .u8 ((y).1 : Nat)) rfl rfl (by kernel_rfl) (by kernel_rfl) (by kernel_rfl) (fun _ _ _ h => h) (hS0) (Or.inl ⟨by kernel_rfl, fun w' hS' => by obtain ⟨k1, k2⟩ := hS'; go_simp⟩) ?_
              simp only [List.setIfInBounds_toArray, List.set_cons_zero, List.set_cons_succ]
              refine takeH_at 27 176 (.int .u8 ((y).1 : Nat)) rfl rfl (by kernel_rfl) (by kernel_rfl) (by kernel_rfl) (fun _ _ _ h => h) (hS0) (Or.inl ⟨by kernel_rfl, fun w' hS' => by obtain ⟨k1, k2⟩ := hS'; go_simp⟩) ?_
              simp only [List.setIfInBounds_toArray, List.set_cons_zero, List.set_cons_succ]
              refine wpAnyH_ready (rs := [21]) (by kernel_rfl) (by simp) ?_
              refine AllReadyH.cons rfl (fun Kx hK => ?_) AllReadyH.nil
              rw [if_pos (by kernel_rfl)]
              go_simp
              refine (HCL.out x x xx _ Hxx.out).mono ?_
              rintro e1 q1 ⟨rfl, hw1⟩
              obtain rfl := hw1.symm
              clear hw1
              go_wp2_with fail
              refine hK.out _ _ hS0 (fun _ => ?_)
              clear hK Kx
              try simp only [Act.put, List.setIfInBounds_toArray, List.set_cons_zero, List.set_cons_succ]
              refine wpAnyH_ready (rs := [22]) (by kernel_rfl) (by simp) ?_
              refine AllReadyH.cons rfl (fun Kx hK => ?_) AllReadyH.nil
              rw [if_pos (by kernel_rfl)]
              go_simp
              refine (HCL.out x xx xxx _ Hxxx.out).mono ?_
              rintro e1 q1 ⟨rfl, hw1⟩
              obtain rfl := hw1.symm
              clear hw1
              go_wp2_with fail
              refine hK.out _ _ hS0 (fun _ => ?_)
              clear hK Kx
              try simp only [Act.put, List.setIfInBounds_toArray, List.set_cons_zero, List.set_cons_succ]
              refine wpAnyH_ready (rs := [23]) (by kernel_rfl) (by simp) ?_
              refine AllReadyH.cons rfl (fun Kx hK => ?_) AllReadyH.nil
              rw [if_pos (by kernel_rfl)]
              go_simp
              refine (HCL.out vv xxx vx3 _ Hvx3.out).mono ?_
              rintro e1 q1 ⟨rfl, hw1⟩
              obtain rfl := hw1.symm
              clear hw1
              go_wp2_with fail
              refine hK.out _ _ hS0 (fun _ => ?_)
              clear hK Kx
              try simp only [Act.put, List.setIfInBounds_toArray, List.set_cons_zero, List.set_cons_succ]
              refine wpAnyH_ready (rs := [28]) (by kernel_rfl) (by simp) ?_
              refine AllReadyH.cons rfl (fun Kx hK => ?_) AllReadyH.nil
              rw [if_pos (by kernel_rfl)]
              go_simp
              refine (HCL.out y y yy _ Hyy.out).mono ?_
              rintro e1 q1 ⟨rfl, hw1⟩
              obtain rfl := hw1.symm
              clear hw1
              go_wp2_with fail
              refine hK.out _ _ hS0 (fun _ => ?_)
              clear hK Kx
              try simp only [Act.put, List.setIfInBounds_toArray, List.set_cons_zero, List.set_cons_succ]
              refine wpAnyH_ready (rs := [29]) (by kernel_rfl) (by simp) ?_
              refine AllReadyH.cons rfl (fun Kx hK => ?_) AllReadyH.nil
              rw [if_pos (by kernel_rfl)]
              go_simp
              refine (HCL.out y yy yyy _ Hyyy.out).mono ?_
              rintro e1 q1 ⟨rfl, hw1⟩
              obtain rfl := hw1.symm
              clear hw1
              go_wp2_with fail
              refine hK.out _ _ hS0 (fun _ => ?_)
              clear hK Kx
              try simp only [Act.put, List.setIfInBounds_toArray, List.set_cons_zero, List.set_cons_succ]
              refine wpAnyH_ready (rs := [30]) (by kernel_rfl) (by simp) ?_
              refine AllReadyH.cons rfl (fun Kx hK => ?_) AllReadyH.nil
              rw [if_pos (by kernel_rfl)]
              go_simp
              refine (HCL.out ww yyy wy3 _ Hwy3.out).mono ?_
              rintro e1 q1 ⟨rfl, hw1⟩
              obtain rfl := hw1.symm
              clear hw1
              go_wp2_with fail
              refine hK.out _ _ hS0 (fun _ => ?_)
              clear hK Kx
              try simp only [Act.put, List.setIfInBounds_toArray, List.set_cons_zero, List.set_cons_succ]
              refine takeH_at 31 180 (.int .u8 ((q3).1 : Nat)) rfl rfl (by kernel_rfl) (by kernel_rfl) (by kernel_rfl) (fun _ _ _ h => h) (hS0) (Or.inl ⟨by kernel_rfl, fun w' hS' => by obtain ⟨k1, k2⟩ := hS'; go_simp⟩) ?_
              simp only [List.setIfInBounds_toArray, List.set_cons_zero, List.set_cons_succ]
              refine takeH_at 32 181 (.bool false) rfl rfl (by kernel_rfl) (by kernel_rfl) (by kernel_rfl) (fun _ _ _ h => h) (hS0) (Or.inl ⟨by kernel_rfl, fun w' hS' => by obtain ⟨k1, k2⟩ := hS'; go_simp⟩) ?_
              simp only [List.setIfInBounds_toArray, List.set_cons_zero, List.set_cons_succ]
              refine takeH_at 33 182 (.bool false) rfl rfl (by kernel_rfl) (by kernel_rfl) (by kernel_rfl) (fun _ _ _ h => h) (hS0) (Or.inl ⟨by kernel_rfl, fun w' hS' => by obtain ⟨k1, k2⟩ := hS'; go_simp⟩) ?_
              simp only [List.setIfInBounds_toArray, List.set_cons_zero, List.set_cons_succ]
              refine takeH_at 34 183 (.bool false) rfl rfl (by kernel_rfl) (by kernel_rfl) (by kernel_rfl) (fun _ _ _ h => h) (hS0) (Or.inl ⟨by kernel_rfl, fun w' hS' => by obtain ⟨k1, k2⟩ := hS'; go_simp⟩) ?_
              simp only [List.setIfInBounds_toArray, List.set_cons_zero, List.set_cons_succ]
              refine takeH_at 35 184 (.int .u8 ((vv).1 : Nat)) rfl rfl (by kernel_rfl) (by kernel_rfl) (by kernel_rfl) (fun _ _ _ h => h) (hS0) (Or.inl ⟨by kernel_rfl, fun w' hS' => by obtain ⟨k1, k2⟩ := hS'; go_simp⟩) ?_
              simp only [List.setIfInBounds_toArray, List.set_cons_zero, List.set_cons_succ]
              refine takeH_at 36 185 (.bool false) rfl rfl (by kernel_rfl) (by kernel_rfl) (by kernel_rfl) (fun _ _ _ h => h) (hS0) (Or.inl ⟨by kernel_rfl, fun w' hS' => by obtain ⟨k1, k2⟩ := hS'; go_simp⟩) ?_
              simp only [List.setIfInBounds_toArray, List.set_cons_zero, List.set_cons_succ]
              refine takeH_at 37 186 (.bool false) rfl rfl (by kernel_rfl) (by kernel_rfl) (by kernel_rfl) (fun _ _ _ h => h) (hS0) (Or.inl ⟨by kernel_rfl, fun w' hS' => by obtain ⟨k1, k2⟩ := hS'; go_simp⟩) ?_
              simp only [List.setIfInBounds_toArray, List.set_cons_zero, List.set_cons_succ]
              refine takeH_at 38 187 (.bool false) rfl rfl (by kernel_rfl) (by kernel_rfl) (by kernel_rfl) (fun _ _ _ h => h) (hS0) (Or.inl ⟨by kernel_rfl, fun w' hS' => by obtain ⟨k1, k2⟩ := hS'; go_simp⟩) ?_
              simp only [List.setIfInBounds_toArray, List.set_cons_zero, List.set_cons_succ]
              refine takeH_at 39 188 (.int .u8 ((ww).1 : Nat)) rfl rfl (by kernel_rfl) (by kernel_rfl) (by kernel_rfl) (fun _ _ _ h => h) (hS0) (Or.inl ⟨by kernel_rfl, fun w' hS' => by obtain ⟨k1, k2⟩ := hS'; go_simp⟩) ?_
              simp only [List.setIfInBounds_toArray, List.set_cons_zero, List.set_cons_succ]
              refine takeH_at 40 189 (.bool false) rfl rfl (by kernel_rfl) (by kernel_rfl) (by kernel_rfl) (fun _ _ _ h => h) (hS0) (Or.inl ⟨by kernel_rfl, fun w' hS' => by obtain ⟨k1, k2⟩ := hS'; go_simp⟩) ?_
              simp only [List.setIfInBounds_toArray, List.set_cons_zero, List.set_cons_succ]
              refine takeH_at 41 190 (.bool false) rfl rfl (by kernel_rfl) (by kernel_rfl) (by kernel_rfl) (fun _ _ _ h => h) (hS0) (Or.inl ⟨by kernel_rfl, fun w' hS' => by obtain ⟨k1, k2⟩ := hS'; go_simp⟩) ?_
              simp only [List.setIfInBounds_toArray, List.set_cons_zero, List.set_cons_succ]
              refine wpAnyH_done (by kernel_rfl) ?_ _
              refine NoPanic.normal ?_
              have HTO : Hid (two1 l i k) := HTW.out.1.2 ⟨HE0.out, HE1.out, HE2.out, HE3.out⟩
              have HNR := two_near l (by rw [HN.out.1]; exact HN.out.2.2.1) i k HKT.out.1 (by rw [HN.out.1]; exact HKT.out.2) HTO.out
              unfold put2 at HNR
              rw [HN.out.1, HTW.out.2.1, HTW.out.2.2] at HNR
              obtain ⟨li, Hli⟩ : ∃ z : F, Hid (l.getD i 0 = z) := ⟨_, rfl⟩
              obtain ⟨lk, Hlk⟩ : ∃ z : F, Hid (l.getD k 0 = z) := ⟨_, rfl⟩
              obtain ⟨ri, Hri⟩ : ∃ z : F, Hid (fa li vv = z) := ⟨_, rfl⟩
              obtain ⟨rk, Hrk⟩ : ∃ z : F, Hid (fa lk ww = z) := ⟨_, rfl⟩
              rw [Hli.out, Hlk.out, Hri.out, Hrk.out] at HNR
              have HNR2 : Hid (Nr l ((l.set i ri).set k rk) ∧ dif ((l.set i ri).set k rk) l n = 2) := HNR
              clear HNR hS0 f0 f1 f2 f3 x4 x5
              obtain ⟨u0, hu0⟩ : ∃ u, u = wr.drew.drew := ⟨_, rfl⟩
              have HU : Hid (NeI M S p b off l w u0) := by rw [hu0]; exact HJ.out.1.1.below (Below.refl _ _).drew.drew
              rw [← hu0]
              clear hu0
              have hbs := bs0 u0
              go_upto_region 33 with (first
                | (refine wpList_clone (by rfl) (.tmp 191) (.tmp 192) (by rfl) u0.heap.size (by rfl) (new_none u0) b off n c l (by rfl) HN.out.1 (by have := HN.out; omega) (by have := HN.out; omega) (HU.out.rw.below ((Below.refl _ _).alloc (Nat.le_refl _) _)) ?_; intro g c' u1 hc1 hg1 hr1 hb1; have HG : Hid (n ≤ c' ∧ u0.heap.size ≤ g ∧ Rx u1 g l ∧ Below u0.heap.size u0 u1) := ⟨hc1, hg1, hr1, Below.trans ((Below.refl _ _).alloc (Nat.le_refl _) _) hb1⟩; clear hc1 hg1 hr1 hb1))
              clear hbs
              have k0 : u1.cell? ⟨g, i, none⟩ = some (.int .u8 (li.1 : Nat)) := by rw [← Hli.out]; exact HG.out.2.2.1.cell i (by rw [HN.out.1]; exact HLT.out)
              have k1 : u1.frozen? ⟨g, i, none⟩ = false := HG.out.2.2.1.frozen i
              have x6 : bits .xor .u8 (((li).1 : Nat) : Int) (((vv).1 : Nat) : Int) = (((ri).1 : Nat) : Int) := by rw [xorF, Hri.out]
              have x7 : bits .xor .u8 (((lk).1 : Nat) : Int) (((ww).1 : Nat) : Int) = (((rk).1 : Nat) : Int) := by rw [xorF, Hrk.out]
              go_upto_region 34 with fail
              have HX1 : Hid (Rx (u1.setCell ⟨g, i, none⟩ (.int .u8 (ri.1 : Nat))) g (l.set i ri) ∧ Below u0.heap.size u0 (u1.setCell ⟨g, i, none⟩ (.int .u8 (ri.1 : Nat)))) :=
                ⟨HG.out.2.2.1.set i (by rw [HN.out.1]; exact HLT.out) ri, HG.out.2.2.2.setCell (by show u0.heap.size ≤ g; exact HG.out.2.1) _⟩
              generalize u1.setCell ⟨g, i, none⟩ (.int .u8 (ri.1 : Nat)) = u2 at HX1 ⊢
              clear k0 k1 x6
              have k0 : u2.cell? ⟨g, k, none⟩ = some (.int .u8 (lk.1 : Nat)) := by
                have q := HX1.out.1.cell k (by rw [List.length_set, HN.out.1]; exact HKT.out.2)
                rw [set_getD _ i k _ (by rw [HN.out.1]; exact HLT.out), if_neg (by have := HKT.out; omega), Hlk.out] at q
                exact q
              have k1 : u2.frozen? ⟨g, k, none⟩ = false := HX1.out.1.frozen k
              go_upto_region 35 with fail
              have HQ : Hid (NearQ l n M (.returned (.tuple #[.slice (some ⟨g, 0, none⟩) n c', .int .i64 2, .bool true])) w (u2.setCell ⟨g, k, none⟩ (.int .u8 (rk.1 : Nat)))) := by
                have hx := HX1.out.1.set k (by rw [List.length_set, HN.out.1]; exact HKT.out.2) rk
                refine ⟨Or.inl ⟨g, 0, c', _, ?_, HNR2.out.1, HG.out.1, hx.rw, hx.lt⟩, ?_⟩
                · rw [HNR2.out.2]; rfl
                · have hb : Below u0.heap.size u0 (u2.setCell ⟨g, k, none⟩ (.int .u8 (rk.1 : Nat))) := HX1.out.2.setCell (by show u0.heap.size ≤ g; exact HG.out.2.1) _
                  exact HU.out.bel.trans (hb.mono HU.out.hm)
              generalize u2.setCell ⟨g, k, none⟩ (.int .u8 (rk.1 : Nat)) = u3 at HQ ⊢
              clear k0 k1 x7
              go_wp2
              go_ret3
              rw [HMM.out]
              exact HQ.out
end Go.Proofs.Ytffejkfkkciaaaa
