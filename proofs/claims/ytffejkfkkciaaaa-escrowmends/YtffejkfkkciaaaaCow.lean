import Derived.Test.YtffejkfkkciaaaaCod
import Derived.Test.YtffejkfkkciaaaaSol
import Derived.Test.YtffejkfkkciaaaaCap
namespace Go.Proofs.Ytffejkfkkciaaaa
open Go.RowKit
set_option linter.unusedVariables false
set_option linter.unusedSimpArgs false
def z4 : List F := [0, 0, 0, 0]
theorem fc_app (a b : List F) : fc (a ++ b) = fc a ++ fc b := by simp [fc]
theorem four_cells (w : World) (x y z u : Value) (e : TypeId) : ∀ (j : Nat) (v : Value), [x, y, z, u][j]? = some v → (w.alloc (.cells #[x, y, z, u] e)).cell? ((⟨w.heap.size, 0, none⟩ : Addr).add j) = some v :=
  fun j v hv => World.news_of_block (w := w.alloc (.cells #[x, y, z, u] e)) (heap_alloc_new w _) j v (by simpa using hv)
theorem rx_cells {w : World} {g : Nat} {l : List F} (h : Rx w g l) : ∀ (j : Nat) (u : Value), (fc l)[j]? = some u → w.cell? ((⟨g, 0, none⟩ : Addr).add j) = some u := fun j u hu => by
  have hj : j < l.length := by have := (List.getElem?_eq_some_iff.1 hu).1; rw [fc_len] at this; exact this
  rw [fc_at l j hj] at hu
  injection hu with hu
  rw [← hu, show (⟨g, 0, none⟩ : Addr).add j = ⟨g, j, none⟩ by unfold Addr.add; split <;> simp_all]
  exact h.cell j hj
theorem row5 (s : Nat → F) (j : Nat) (hj : j < 4) (w : World) (a b c d : F) (ha : Em (3 * j) = a) (hb : Em (2 * j) = b) (hc : Em j = c) (hd : s j = d) : Rx (w.alloc (.cells #[.int .u8 (a.1 : Nat), .int .u8 (b.1 : Nat), .int .u8 (c.1 : Nat), .int .u8 1, .int .u8 (d.1 : Nat)] 5)) w.heap.size (rowL (codM s) 4 j) := by
  refine ⟨[], ?_⟩
  rw [List.append_nil]
  have e : fc (rowL (codM s) 4 j) = [.int .u8 (a.1 : Nat), .int .u8 (b.1 : Nat), .int .u8 (c.1 : Nat), .int .u8 1, .int .u8 (d.1 : Nat)] := by
    show fc [codM s j 0, codM s j 1, codM s j 2, codM s j 3, codM s j 4] = _
    unfold codM
    simp only [if_true, show ¬ (0 : Nat) = 4 by decide, show ¬ (1 : Nat) = 4 by decide, show ¬ (2 : Nat) = 4 by decide, show ¬ (3 : Nat) = 4 by decide, if_false]
    rw [show 3 - 0 = 3 from rfl, show 3 - 1 = 2 from rfl, show 3 - 2 = 1 from rfl, show 3 - 3 = 0 from rfl, Nat.zero_mul, Nat.one_mul, Em_zero, ha, hb, hc, hd]
    rfl
  rw [e]
  exact heap_alloc_new w _
theorem cod_num (j A B : Nat) (hj : j < 4) (hA : 3 * j = A) (hB : 2 * j = B) : IntKind.i64.wrap (3 * (j : Int)) = (A : Int) ∧ IntKind.i64.wrap (2 * (j : Int)) = (B : Int) ∧ (A : Int) < 255 ∧ (B : Int) < 255 ∧ (j : Int) < 255 ∧ (0 : Int) ≤ (j : Int) ∧ IntKind.i64.wrap ((j : Int) + 1) = ((j + 1 : Nat) : Int) ∧ (0 : Int) ≤ (A : Int) ∧ (0 : Int) ≤ (B : Int) := by
  refine ⟨?_, ?_, by omega, by omega, by omega, by omega, ?_, by omega, by omega⟩ <;> (rw [IntKind.wrap_i64]; omega)
/-- What Coded leaves. -/
def CodQ (l x0 : List F) (n M : Nat) (e : Ending) (w w' : World) : Prop := ∃ g c', e = .returned (.slice (some ⟨g, 0, none⟩) (n + 4) c') ∧ (n + 4 ≤ c' ∧ c' ≤ 9223372036854775807) ∧ Rx w' g (l ++ x0) ∧ Below M w w'
set_option maxHeartbeats 6400000 in
set_option maxRecDepth 100000 in
theorem coded_ok (b off n c : Nat) (l x0 : List F) (w : World) (hl : l.length = n) (h1 : 1 ≤ n) (hn : n ≤ 200) (h : Rw w b off l) (hx : x0.length = 4) (hz : sumL (l ++ x0) = [0, 0, 0, 0]) : Calls Try.prog 22 #[.slice (some ⟨b, off, none⟩) n c] w fun e w' => CodQ l x0 n w.heap.size e w w' := by
  obtain ⟨M, HMM⟩ : ∃ M, Hid (w.heap.size = M) := ⟨_, rfl⟩
  obtain ⟨s, HSS⟩ : ∃ s : Nat → F, Hid (sumG (l ++ [0, 0, 0, 0]) = s) := ⟨sumG (l ++ [0, 0, 0, 0]), by show _ = _; rfl⟩
  have HN : Hid (l.length = n ∧ 1 ≤ n ∧ n ≤ 200 ∧ x0.length = 4 ∧ sumL (l ++ x0) = [0, 0, 0, 0]) := ⟨hl, h1, hn, hx, hz⟩
  have HR : Hid (Rw w b off l) := h
  have H19 : Hid (∀ (g cc : Nat) u, Rx u g (l ++ z4) → Calls Try.prog 19 #[.slice (some ⟨g, 0, none⟩) (n + 4) cc] u fun e w' => Hid (e = .returned (.agg (fc (sumL (l ++ z4))).toArray) ∧ Below u.heap.size u w')) := fun g cc u hu => by
    have q := rsums_ok g 0 cc (l ++ z4) u (by rw [List.length_append, hl]; show n + 4 ≤ 255; omega) hu.rw hu.lt
    rw [List.length_append, hl] at q
    exact q
  have H20 : Hid (∀ u, Calls Try.prog 20 #[.int .i64 255] u fun e w' => Hid (∃ v, e = .returned v ∧ w'.ownsRow u.heap.size 5 1 v 255 (fc ((List.range 255).map Em)) ∧ Below u.heap.size u w')) := fun u => rpowers_ok 255 (by decide) u
  have H33 : Hid (∀ G c0 u, InM u G 0 4 4 (codM s) → 4 ≤ c0 → Calls Try.prog 33 #[.slice (some ⟨G, 0, none⟩) 4 c0] u fun e w' => Hid (∃ g c, e = .returned (.tuple #[.slice (some ⟨g, 0, none⟩) 4 c, .bool true]) ∧ Rx w' g x0 ∧ Below u.heap.size u w')) := fun G c0 u hu hc => (solve_ok G 0 4 c0 4 (codM s) u (by decide) (by decide) (by decide) (by decide) hc hu (cod_ind s)).mono (by
    rintro e w' ⟨hs, hb⟩
    rcases hs with ⟨g, c, xs, rfl, hxl, hxn, hxc, hxr⟩ | ⟨hno, rfl⟩
    · refine ⟨g, c, rfl, ?_, hb⟩
      rw [← cod_only l xs x0 hxl hx (by rw [HSS.out]; exact hxn) hz]
      exact hxr
    · exfalso
      obtain ⟨a, b', c', d, rfl⟩ := four x0 hx
      refine hno (zOf [a, b', c', d]) (zOf_n _ 4 rfl) ?_
      rw [← HSS.out]
      exact cod_null l a b' c' d hz)
  obtain ⟨L, HLL⟩ : ∃ L, Hid (fc (sumL (l ++ z4)) = L) := ⟨_, rfl⟩
  rw [HLL.out] at H19
  have HLN : Hid (L.length = 4 ∧ ∀ v ∈ L, v.oneCell' = true) := by rw [← HLL.out]; exact ⟨by rw [fc_len]; rfl, fc_one _⟩
  have hi7 : (Try.prog.info? 51).map (·.size) = some L.length := by rw [HLN.out.1]; kernel_rfl
  obtain ⟨i0, hi, hz0, hz1, hz2⟩ := info_parts Try.infoB
  obtain ⟨i25, hi5, hz5, hz6, hz7⟩ := info_parts Try.info25q
  clear h hl h1 hn hx hz
  go_enter Try.func22, Try.ntmps22
  have hbs := bs0 w
  go_upto_region 2 with (first
    | (refine wpList_clone_own (by rfl) (.tmp 10) (.tmp 11) (by rfl) w.heap.size (by rfl) (new_none w) b off n c l (by rfl) HN.out.1 HN.out.2.1 (by have := HN.out; omega) (HR.out.below ((Below.refl _ _).alloc (Nat.le_refl _) _)) ?_; intro v1 w1 ho1 hb1; have H1 : Hid (w1.ownsRow w.heap.size 5 1 v1 n (fc l) ∧ Below w.heap.size w w1) := ⟨ho1, Below.trans ((Below.refl _ _).alloc (Nat.le_refl _) _) hb1⟩; clear ho1 hb1)
    | (at_builtin; go_must (refine wpList_append_own _ rfl (.tmp 12) (.tmp 13) 25 rfl w.heap.size 5 i0 (.int .u8 0) 1 1 Try.underlying25 hi hz0 hz1 hz2 rfl (by decide) _ n _ rfl (H1.out.1.alloc _) ⟨w1.heap.size, 0, none⟩ 4 4 (fc z4) rfl rfl (four_cells w1 _ _ _ _ 5) (fc_one _) (by have := HN.out; unfold maxLen; omega) (by have := HN.out; omega) (by have := H1.out.2.size; simp; omega) ?_; intro v2 w2 hown hgrow hnil; have H2 : Hid (w2.ownsRow w.heap.size 5 1 v2 (n + 4) (fc (l ++ z4)) ∧ Below w.heap.size w w2) := ⟨by rw [fc_app]; exact hown, (H1.out.2.alloc H1.out.2.size _).grown hgrow (by have := H1.out.2.size; simp; omega) (fun q hq => (H1.out.1.lt q hq).1)⟩; clear hown hgrow hnil)))
  clear hbs
  obtain ⟨g1, c1, rfl, HG1⟩ := own_rx (l := l ++ z4) (by rw [List.length_append, HN.out.1]; exact H2.out.1) (by rw [List.length_append, HN.out.1]; show 1 ≤ n + 4; omega)
  rw [List.length_append, HN.out.1, show z4.length = 4 from rfl]
  go_upto_region 3 with (first
    | (go_at_call 19; refine (H19.out g1 c1 w2 HG1.out.1).mono ?_; intro e3 w3 hh; obtain ⟨rfl, q⟩ := hh.out; have HB3 : Hid (Below w2.heap.size w2 w3) := q; clear hh q)
    | (refine wpList_store_bx (by rfl) 51 (.tmp 4) (.tmp 16) (by rfl) (List.replicate 4 (.int .u8 0)) L w3.heap.size (by rfl) (by rfl) (Bx.new w3 51 _) (by rw [HLN.out.1]; rfl) hi7 HLN.out.2 ?_; intro w4 hb2 hg2; have HB4 : Hid (Bx w4 w3.heap.size 51 L ∧ (w3.alloc (.cells (List.replicate 4 (Value.int .u8 0)).toArray 51)).grownBy w4 (some w3.heap.size)) := ⟨hb2, hg2⟩; clear hb2 hg2))
  obtain ⟨S, HS⟩ : ∃ S, Hid (w3.heap.size = S) := ⟨_, rfl⟩
  rw [HS.out] at HB4 ⊢
  have HI4 : Hid (Bx w4 S 51 L ∧ Below M w w4) := by
    have e2 : Below M w w2 := by rw [← HMM.out]; exact H2.out.2
    have hs2 : M ≤ w2.heap.size := bel_size e2 HMM.out
    have e3 : Below M w w3 := e2.trans (HB3.out.mono hs2)
    have hs3 : M ≤ w3.heap.size := bel_size e3 HMM.out
    exact ⟨HB4.out.1, (e3.alloc hs3 _).trans (below_gb HB4.out.2 (by simp; omega) (by have := HS.out; omega))⟩
  clear HB3 HB4 H1 H2 HG1 HS
  go_upto_region 4 with (first
      | (go_at_call 20; refine (H20.out w4).mono ?_; intro e4 w5 hh; obtain ⟨v, rfl, q1, q2⟩ := hh.out; have HB5 : Hid (Below w4.heap.size w4 w5) := q2; obtain ⟨p, pc, rfl, HP⟩ := own_row255 q1; clear hh q1 q2))
  have HI5 : Hid (Bx w5 S 51 L ∧ (∀ i, i < 255 → w5.cell? ⟨p, i, none⟩ = some (.int .u8 ((Em i).1 : Nat))) ∧ Below M w w5 ∧ M ≤ w5.heap.size) := by
    have e5 : Below M w w5 := HI4.out.2.trans (HB5.out.mono (bel_size HI4.out.2 HMM.out))
    exact ⟨HI4.out.1.below HB5.out, HP.out.1, e5, bel_size e5 HMM.out⟩
  clear HI4 HB5 HP
  obtain ⟨B, HB⟩ : ∃ B, Hid (w5.heap.size = B) := ⟨_, rfl⟩
  go_wp2
  go_loopw [6, 7] (fun vm vj wr => ∃ (mv : Value) (j : Nat), vm = mv ∧ j ≤ 4 ∧ vj = .int .i64 (j : Nat) ∧ Hid (∃ gs cs, GlI B 4 j (codM s) gs cs mv wr ∧ Below B w5 wr)) (fun _ vj _ => 4 - (intOf vj).toNat)
  case atStart => exact ⟨_, 0, rfl, by omega, rfl, fun _ => 0, fun _ => 0, ⟨World.ownsRow_nil _ _ _ _, fun _ h => absurd h (by omega), fun _ _ h => absurd h (by omega)⟩, Below.refl _ _⟩
  case round =>
    obtain ⟨mv, j, hvs, hj, rfl, HJ⟩ := hrel
    obtain rfl := hvs.symm
    by_cases hlt : j < 4
    case pos =>
      have HK : Hid (j < 4) := hlt
      have gj : (j : Int) < 4 := by omega
      obtain ⟨A, HA⟩ : ∃ A, Hid (3 * j = A) := ⟨_, rfl⟩
      obtain ⟨C, HC⟩ : ∃ A, Hid (2 * j = A) := ⟨_, rfl⟩
      obtain ⟨n1, n2, n3, n4, n5, n6, n7, n8, n9⟩ := cod_num j A C hlt HA.out HC.out
      obtain ⟨xa, Hxa⟩ : ∃ z : F, Hid (Em (3 * j) = z) := ⟨_, rfl⟩
      obtain ⟨xb, Hxb⟩ : ∃ z : F, Hid (Em (2 * j) = z) := ⟨_, rfl⟩
      obtain ⟨xc, Hxc⟩ : ∃ z : F, Hid (Em j = z) := ⟨_, rfl⟩
      obtain ⟨xd, Hxd⟩ : ∃ z : F, Hid (s j = z) := ⟨_, rfl⟩
      obtain ⟨gs, cs, hG, hB⟩ := HJ.out
      have HJ2 : Hid (GlI B 4 j (codM s) gs cs mv wr ∧ Below B w5 wr ∧ B ≤ wr.heap.size) := ⟨hG, hB, bel_size hB HB.out⟩
      have hS0 : wr.drew.cell? ⟨p, A, none⟩ = some (.int .u8 (xa.1 : Nat)) ∧ wr.drew.cell? ⟨p, C, none⟩ = some (.int .u8 (xb.1 : Nat)) ∧ wr.drew.cell? ⟨p, j, none⟩ = some (.int .u8 (xc.1 : Nat)) ∧ wr.drew.cell? ⟨S, j, none⟩ = some (.int .u8 (xd.1 : Nat)) := by
        have hbw : Below w5.heap.size w5 wr := by rw [HB.out]; exact hB
        have r : ∀ i, i < 255 → wr.cell? ⟨p, i, none⟩ = some (.int .u8 ((Em i).1 : Nat)) := fun i hi => (hbw.cell (World.block_lt_of_cell? _ _ (HI5.out.2.1 i hi))).trans (HI5.out.2.1 i hi)
        have r1 := r A (by have := HA.out; omega)
        have r2 := r C (by have := HC.out; omega)
        have r3 := r j (by omega)
        rw [← HA.out, Hxa.out] at r1
        rw [← HC.out, Hxb.out] at r2
        rw [Hxc.out] at r3
        have r4 := (HI5.out.1.below hbw).cell j (.int .u8 ((s j).1 : Nat)) (by
          rw [← HLL.out, fc_at _ j (by show j < 4; exact hlt)]
          have e : (sumL (l ++ z4)).getD j 0 = sumG (l ++ z4) j := by
            match j, hlt with
            | 0, _ => rfl
            | 1, _ => rfl
            | 2, _ => rfl
            | 3, _ => rfl
          rw [e, show z4 = [0, 0, 0, 0] from rfl, HSS.out])
        rw [Hxd.out] at r4
        exact ⟨by rw [← HA.out]; exact r1, by rw [← HC.out]; exact r2, r3, r4⟩
      clear hG hB HJ hlt hj
      go_upto_region 8 with fail
      refine wp_region_noPanic ?_
      refine wp_region_till (fun u => u.cell? ⟨p, A, none⟩ = some (.int .u8 (xa.1 : Nat)) ∧ u.cell? ⟨p, C, none⟩ = some (.int .u8 (xb.1 : Nat)) ∧ u.cell? ⟨p, j, none⟩ = some (.int .u8 (xc.1 : Nat)) ∧ u.cell? ⟨S, j, none⟩ = some (.int .u8 (xd.1 : Nat))) 20 (by kernel_rfl) (by decide) (by decide +kernel) (by decide +kernel) (by decide +kernel) (fun inv => ?_)
      refine till_at 0 22 (mv) inv rfl rfl (by decide) (by decide +kernel) (by decide +kernel) (fun _ _ _ h => h) (hS0) (Or.inl ⟨by rfl, fun w' hS' => by obtain ⟨k1, k2, k3, k4⟩ := hS'; go_simp⟩) (fun inv' => ?_)
      clear inv; have inv := inv'; clear inv'
      try simp only [List.setIfInBounds_toArray, List.set_cons_zero, List.set_cons_succ]
      refine till_at 1 23 (.slice (some ⟨p, 0, none⟩) 255 pc) inv rfl rfl (by decide) (by decide +kernel) (by decide +kernel) (fun _ _ _ h => h) (hS0) (Or.inl ⟨by rfl, fun w' hS' => by obtain ⟨k1, k2, k3, k4⟩ := hS'; go_simp⟩) (fun inv' => ?_)
      clear inv; have inv := inv'; clear inv'
      try simp only [List.setIfInBounds_toArray, List.set_cons_zero, List.set_cons_succ]
      refine till_at 2 24 (.int .i64 (j : Nat)) inv rfl rfl (by decide) (by decide +kernel) (by decide +kernel) (fun _ _ _ h => h) (hS0) (Or.inl ⟨by rfl, fun w' hS' => by obtain ⟨k1, k2, k3, k4⟩ := hS'; go_simp⟩) (fun inv' => ?_)
      clear inv; have inv := inv'; clear inv'
      try simp only [List.setIfInBounds_toArray, List.set_cons_zero, List.set_cons_succ]
      refine till_at 3 25 (.int .i64 (A : Nat)) inv rfl rfl (by decide) (by decide +kernel) (by decide +kernel) (fun _ _ _ h => h) (hS0) (Or.inl ⟨by rfl, fun w' hS' => by obtain ⟨k1, k2, k3, k4⟩ := hS'; go_simp⟩) (fun inv' => ?_)
      clear inv; have inv := inv'; clear inv'
      try simp only [List.setIfInBounds_toArray, List.set_cons_zero, List.set_cons_succ]
      refine till_at 4 26 (.pointer (some ⟨p, A, none⟩)) inv rfl rfl (by decide) (by decide +kernel) (by decide +kernel) (fun _ _ _ h => h) (hS0) (Or.inl ⟨by rfl, fun w' hS' => by obtain ⟨k1, k2, k3, k4⟩ := hS'; go_simp⟩) (fun inv' => ?_)
      clear inv; have inv := inv'; clear inv'
      try simp only [List.setIfInBounds_toArray, List.set_cons_zero, List.set_cons_succ]
      refine till_at 5 27 (.int .u8 ((xa).1 : Nat)) inv rfl rfl (by decide) (by decide +kernel) (by decide +kernel) (fun _ _ _ h => h) (hS0) (Or.inl ⟨by rfl, fun w' hS' => by obtain ⟨k1, k2, k3, k4⟩ := hS'; go_simp⟩) (fun inv' => ?_)
      clear inv; have inv := inv'; clear inv'
      try simp only [List.setIfInBounds_toArray, List.set_cons_zero, List.set_cons_succ]
      refine till_at 6 28 (.slice (some ⟨p, 0, none⟩) 255 pc) inv rfl rfl (by decide) (by decide +kernel) (by decide +kernel) (fun _ _ _ h => h) (hS0) (Or.inl ⟨by rfl, fun w' hS' => by obtain ⟨k1, k2, k3, k4⟩ := hS'; go_simp⟩) (fun inv' => ?_)
      clear inv; have inv := inv'; clear inv'
      try simp only [List.setIfInBounds_toArray, List.set_cons_zero, List.set_cons_succ]
      refine till_at 7 29 (.int .i64 (j : Nat)) inv rfl rfl (by decide) (by decide +kernel) (by decide +kernel) (fun _ _ _ h => h) (hS0) (Or.inl ⟨by rfl, fun w' hS' => by obtain ⟨k1, k2, k3, k4⟩ := hS'; go_simp⟩) (fun inv' => ?_)
      clear inv; have inv := inv'; clear inv'
      try simp only [List.setIfInBounds_toArray, List.set_cons_zero, List.set_cons_succ]
      refine till_at 8 30 (.int .i64 (C : Nat)) inv rfl rfl (by decide) (by decide +kernel) (by decide +kernel) (fun _ _ _ h => h) (hS0) (Or.inl ⟨by rfl, fun w' hS' => by obtain ⟨k1, k2, k3, k4⟩ := hS'; go_simp⟩) (fun inv' => ?_)
      clear inv; have inv := inv'; clear inv'
      try simp only [List.setIfInBounds_toArray, List.set_cons_zero, List.set_cons_succ]
      refine till_at 9 31 (.pointer (some ⟨p, C, none⟩)) inv rfl rfl (by decide) (by decide +kernel) (by decide +kernel) (fun _ _ _ h => h) (hS0) (Or.inl ⟨by rfl, fun w' hS' => by obtain ⟨k1, k2, k3, k4⟩ := hS'; go_simp⟩) (fun inv' => ?_)
      clear inv; have inv := inv'; clear inv'
      try simp only [List.setIfInBounds_toArray, List.set_cons_zero, List.set_cons_succ]
      refine till_at 10 32 (.int .u8 ((xb).1 : Nat)) inv rfl rfl (by decide) (by decide +kernel) (by decide +kernel) (fun _ _ _ h => h) (hS0) (Or.inl ⟨by rfl, fun w' hS' => by obtain ⟨k1, k2, k3, k4⟩ := hS'; go_simp⟩) (fun inv' => ?_)
      clear inv; have inv := inv'; clear inv'
      try simp only [List.setIfInBounds_toArray, List.set_cons_zero, List.set_cons_succ]
      refine till_at 11 33 (.slice (some ⟨p, 0, none⟩) 255 pc) inv rfl rfl (by decide) (by decide +kernel) (by decide +kernel) (fun _ _ _ h => h) (hS0) (Or.inl ⟨by rfl, fun w' hS' => by obtain ⟨k1, k2, k3, k4⟩ := hS'; go_simp⟩) (fun inv' => ?_)
      clear inv; have inv := inv'; clear inv'
      try simp only [List.setIfInBounds_toArray, List.set_cons_zero, List.set_cons_succ]
      refine till_at 12 34 (.int .i64 (j : Nat)) inv rfl rfl (by decide) (by decide +kernel) (by decide +kernel) (fun _ _ _ h => h) (hS0) (Or.inl ⟨by rfl, fun w' hS' => by obtain ⟨k1, k2, k3, k4⟩ := hS'; go_simp⟩) (fun inv' => ?_)
      clear inv; have inv := inv'; clear inv'
      try simp only [List.setIfInBounds_toArray, List.set_cons_zero, List.set_cons_succ]
      refine till_at 13 35 (.pointer (some ⟨p, j, none⟩)) inv rfl rfl (by decide) (by decide +kernel) (by decide +kernel) (fun _ _ _ h => h) (hS0) (Or.inl ⟨by rfl, fun w' hS' => by obtain ⟨k1, k2, k3, k4⟩ := hS'; go_simp⟩) (fun inv' => ?_)
      clear inv; have inv := inv'; clear inv'
      try simp only [List.setIfInBounds_toArray, List.set_cons_zero, List.set_cons_succ]
      refine till_at 14 36 (.int .u8 ((xc).1 : Nat)) inv rfl rfl (by decide) (by decide +kernel) (by decide +kernel) (fun _ _ _ h => h) (hS0) (Or.inl ⟨by rfl, fun w' hS' => by obtain ⟨k1, k2, k3, k4⟩ := hS'; go_simp⟩) (fun inv' => ?_)
      clear inv; have inv := inv'; clear inv'
      try simp only [List.setIfInBounds_toArray, List.set_cons_zero, List.set_cons_succ]
      refine till_at 15 37 (.int .i64 (j : Nat)) inv rfl rfl (by decide) (by decide +kernel) (by decide +kernel) (fun _ _ _ h => h) (hS0) (Or.inl ⟨by rfl, fun w' hS' => by obtain ⟨k1, k2, k3, k4⟩ := hS'; go_simp⟩) (fun inv' => ?_)
      clear inv; have inv := inv'; clear inv'
      try simp only [List.setIfInBounds_toArray, List.set_cons_zero, List.set_cons_succ]
      refine till_at 16 38 (.pointer (some ⟨S, j, none⟩)) inv rfl rfl (by decide) (by decide +kernel) (by decide +kernel) (fun _ _ _ h => h) (hS0) (Or.inl ⟨by rfl, fun w' hS' => by obtain ⟨k1, k2, k3, k4⟩ := hS'; go_simp⟩) (fun inv' => ?_)
      clear inv; have inv := inv'; clear inv'
      try simp only [List.setIfInBounds_toArray, List.set_cons_zero, List.set_cons_succ]
      refine till_at 17 39 (.int .u8 ((xd).1 : Nat)) inv rfl rfl (by decide) (by decide +kernel) (by decide +kernel) (fun _ _ _ h => h) (hS0) (Or.inl ⟨by rfl, fun w' hS' => by obtain ⟨k1, k2, k3, k4⟩ := hS'; go_simp⟩) (fun inv' => ?_)
      clear inv; have inv := inv'; clear inv'
      try simp only [List.setIfInBounds_toArray, List.set_cons_zero, List.set_cons_succ]
      refine till_head (i := 18) inv (by decide +kernel) (by decide) rfl (fun KK hK => ?_)
      go_simp
      obtain ⟨w6, hw6⟩ : ∃ u, u = (wr.alloc (.cells #[.int .u8 (xa.1 : Nat), .int .u8 (xb.1 : Nat), .int .u8 (xc.1 : Nat), .int .u8 1, .int .u8 (xd.1 : Nat)] 5)).drew := ⟨_, rfl⟩
      have HB6 : Hid (Below wr.heap.size wr w6 ∧ Rx w6 wr.heap.size (rowL (codM s) 4 j) ∧ w6.heap.size = wr.heap.size + 1) := by
        rw [hw6]
        refine ⟨((Below.refl _ _).alloc (Nat.le_refl _) _).drew, ?_, by simp⟩
        exact row5 s j HK.out wr xa xb xc xd Hxa.out Hxb.out Hxc.out Hxd.out
      have hS6 : w6.cell? ⟨p, A, none⟩ = some (.int .u8 (xa.1 : Nat)) ∧ w6.cell? ⟨p, C, none⟩ = some (.int .u8 (xb.1 : Nat)) ∧ w6.cell? ⟨p, j, none⟩ = some (.int .u8 (xc.1 : Nat)) ∧ w6.cell? ⟨S, j, none⟩ = some (.int .u8 (xd.1 : Nat)) := by
        obtain ⟨k1, k2, k3, k4⟩ := hS0
        exact ⟨(HB6.out.1.cell (World.block_lt_of_cell? wr _ k1)).trans k1, (HB6.out.1.cell (World.block_lt_of_cell? wr _ k2)).trans k2, (HB6.out.1.cell (World.block_lt_of_cell? wr _ k3)).trans k3, (HB6.out.1.cell (World.block_lt_of_cell? wr _ k4)).trans k4⟩
      rw [← hw6]
      clear hw6
      refine hK.out _ _ hS6 (fun inv' => ?_)
      clear hK KK inv; have inv := inv'; clear inv'
      try simp only [Act.put, List.setIfInBounds_toArray, List.set_cons_zero, List.set_cons_succ]
      refine till_head (i := 19) inv (by decide +kernel) (by decide) rfl (fun KK hK => ?_)
      go_simp
      obtain ⟨w7, hw7⟩ : ∃ u, u = w6.alloc (.cells #[.slice (some ⟨wr.heap.size, 0, none⟩) 5 5] 25) := ⟨_, rfl⟩
      have HB7 : Hid (Below wr.heap.size wr w7 ∧ Rx w7 wr.heap.size (rowL (codM s) 4 j) ∧ ∀ q u, [Value.slice (some ⟨wr.heap.size, 0, none⟩) 5 5][q]? = some u → w7.cell? ((⟨w6.heap.size, 0, none⟩ : Addr).add q) = some u) := by
        rw [hw7]
        have hb : Below w6.heap.size w6 (w6.alloc (.cells #[.slice (some ⟨wr.heap.size, 0, none⟩) 5 5] 25)) := (Below.refl _ _).alloc (Nat.le_refl _) _
        exact ⟨HB6.out.1.trans (hb.mono HB6.out.1.size), HB6.out.2.1.below hb, one_cell w6 _ 25⟩
      have hS7 : w7.cell? ⟨p, A, none⟩ = some (.int .u8 (xa.1 : Nat)) ∧ w7.cell? ⟨p, C, none⟩ = some (.int .u8 (xb.1 : Nat)) ∧ w7.cell? ⟨p, j, none⟩ = some (.int .u8 (xc.1 : Nat)) ∧ w7.cell? ⟨S, j, none⟩ = some (.int .u8 (xd.1 : Nat)) := by
        obtain ⟨k1, k2, k3, k4⟩ := hS0
        exact ⟨(HB7.out.1.cell (World.block_lt_of_cell? wr _ k1)).trans k1, (HB7.out.1.cell (World.block_lt_of_cell? wr _ k2)).trans k2, (HB7.out.1.cell (World.block_lt_of_cell? wr _ k3)).trans k3, (HB7.out.1.cell (World.block_lt_of_cell? wr _ k4)).trans k4⟩
      rw [← hw7]
      clear hw7
      refine hK.out _ _ hS7 (fun inv' => ?_)
      clear hK KK inv; have inv := inv'; clear inv'
      try simp only [Act.put, List.setIfInBounds_toArray, List.set_cons_zero, List.set_cons_succ]
      refine till_tail (i := 20) (by decide +kernel) (by decide) rfl (fun KK hK => ?_)
      refine step_append_lies w7 rfl (.tmp 22) (.tmp 41) 70 rfl B 25 i25 (.slice none 0 0) 1 24 Try.und70 hi5 hz5 hz6 hz7 rfl (by decide) mv j ((List.range j).map (rowV 4 gs cs)) rfl (own_below HJ2.out.1.own HB7.out.1) ⟨w6.heap.size, 0, none⟩ 1 1 [.slice (some ⟨wr.heap.size, 0, none⟩) 5 5] rfl rfl HB7.out.2.2 (by intro x hx; simp at hx; subst hx; rfl) (by decide) (by have := HK.out; unfold maxLen; omega) (by have := HK.out; omega) (by have := HJ2.out.2.2; have := HB7.out.1.size; omega) _ rfl ?_
      intro g c9 w8 hown hgrow _ _
      have HX : Hid (GlI B 4 (j + 1) (codM s) (fun q => if q = j then wr.heap.size else gs q) (fun q => if q = j then 5 else cs q) (.slice (some ⟨g, 0, none⟩) (j + 1) c9) w8 ∧ Below B w5 w8) := ⟨HJ2.out.1.more HB7.out.1 HB7.out.2.1 (Nat.le_refl 5) (Nat.le_refl _) HJ2.out.2.2 hown hgrow, (HJ2.out.2.1.trans (HB7.out.1.mono HJ2.out.2.2)).grown hgrow (by have := HJ2.out.2.2; have := HB7.out.1.size; omega) (fun q hq => (HJ2.out.1.own.lt q hq).1)⟩
      clear hown hgrow
      refine hK.out _ _ ?_
      clear hK KK
      try simp only [Act.put, List.setIfInBounds_toArray, List.set_cons_zero, List.set_cons_succ]
      refine till_tail (i := 21) (by decide +kernel) (by decide) rfl (fun KK hK => ?_)
      go_simp
      refine hK.out _ _ ?_
      clear hK KK
      try simp only [List.setIfInBounds_toArray, List.set_cons_zero, List.set_cons_succ]
      refine till_done (by decide +kernel) ?_ _
      refine NoPanic.normal ?_
      clear inv hS0 hS6 hS7
      go_wp2
      have e0 := HK.out
      refine ⟨⟨_, j + 1, by rfl, by omega, by first | rfl | (simp; done), _, _, HX.out⟩, ?_⟩
      simp [intOf]
      omega
    case neg =>
      obtain rfl : j = 4 := by omega
      obtain ⟨gs, cs, hG, hB⟩ := HJ.out
      obtain ⟨G, cap, rfl, HMT⟩ := hG.mat (by decide)
      have HIN : Hid (InM wr G 0 4 4 (codM s) ∧ 4 ≤ cap) := ⟨fun i hi => ⟨gs i, 0, cs i, by rw [Nat.zero_add]; exact HMT.out.2.ptr i hi, HMT.out.2.cap i hi, (HMT.out.2.row i hi).rw⟩, HMT.out.1⟩
      have HBW : Hid (Below M w wr) := HI5.out.2.2.1.trans (hB.mono (by rw [← HB.out]; exact HI5.out.2.2.2))
      clear hG hB HMT HJ hlt hj
      go_upto_region 10 with (go_at_call 33; refine (H33.out G cap wr HIN.out.1 HIN.out.2).mono ?_; intro e6 w6 hh; obtain ⟨g3, c3, rfl, q1, q2⟩ := hh.out; have HB6 : Hid (Rx w6 g3 x0 ∧ Below wr.heap.size wr w6) := ⟨q1, q2⟩; clear hh q1 q2)
      have HB7 : Hid (Below M w w6) := HBW.out.trans (HB6.out.2.mono (bel_size HBW.out HMM.out))
      have hbs := bs0 w6
      obtain ⟨K9, HK9⟩ : ∃ k, Hid (w6.heap.size = k) := ⟨_, rfl⟩
      go_wp2_with (first
        | (refine wpList_clone_own (by rfl) (.tmp 48) (.tmp 49) (by rfl) w6.heap.size (by rfl) (new_none w6) b off n c l (by rfl) HN.out.1 HN.out.2.1 (by have := HN.out; omega) (HR.out.below (by rw [HMM.out]; exact HB7.out.alloc (bel_size HB7.out HMM.out) _)) ?_; intro v8 w8 ho1 hb1; have H8 : Hid (w8.ownsRow w6.heap.size 5 1 v8 n (fc l) ∧ Below w6.heap.size w6 w8) := ⟨ho1, Below.trans ((Below.refl _ _).alloc (Nat.le_refl _) _) hb1⟩; clear ho1 hb1)
        | (at_builtin; go_must (refine wpList_append_own _ rfl (.tmp 50) (.tmp 51) 25 rfl w6.heap.size 5 i0 (.int .u8 0) 1 1 Try.underlying25 hi hz0 hz1 hz2 rfl (by decide) _ n _ rfl H8.out.1 ⟨g3, 0, none⟩ 4 c3 (fc x0) rfl (by rw [fc_len, HN.out.2.2.2.1]) (rx_cells (HB6.out.1.below H8.out.2)) (fc_one _) (by have := HN.out; unfold maxLen; omega) (by have := HN.out; omega) H8.out.2.size ?_; intro v9 w9 hown hgrow hnil; have H9 : Hid (w9.ownsRow w6.heap.size 5 1 v9 (n + 4) (fc (l ++ x0)) ∧ Below w6.heap.size w6 w9) := ⟨by rw [fc_app]; exact hown, H8.out.2.grown hgrow H8.out.2.size (fun q hq => (H8.out.1.lt q hq).1)⟩; clear hown hgrow hnil)))
      go_ret
      have hlen : (l ++ x0).length = n + 4 := by rw [List.length_append, HN.out.1, HN.out.2.2.2.1]
      obtain ⟨g9, c9, rfl, HG9⟩ := own_rx (l := l ++ x0) (by rw [hlen]; exact H9.out.1) (by rw [hlen]; omega)
      rw [hlen] at *
      refine ⟨g9, c9, rfl, own_cap H9.out.1 (by omega), HG9.out.1, ?_⟩
      rw [HMM.out]
      exact HB7.out.trans (H9.out.2.mono (bel_size HB7.out HMM.out))
end Go.Proofs.Ytffejkfkkciaaaa
