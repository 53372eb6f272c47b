import Derived.Test.YtcopkohklgbpgaaDoorMsk
import Derived.Defers
namespace Go.Proofs.YtcopkohklgbpgaaDoor
open Go.RowKit
set_option linter.unusedVariables false
set_option linter.unusedSimpArgs false
/-- mask, however much lies ahead. -/
theorem mask_ok (g s u n cnt : Nat) (f : Nat → Int) (av lv : Value) (A Z : List Int) (h : Int) (w : World) (k : Known h) (hm : Mix w g s h f u) (hne : g ≠ s) (hg4 : 4 ≤ g) (hs4 : 4 ≤ s) (hu : u ≤ 1024) (hn : 1 ≤ n ∧ n ≤ 1024) (hA : View w av A) (hAl : A.length = cnt * n) (hcn : cnt * n ≤ 140737488355328) (hZ : View w lv Z) (hZl : Z.length = n)
    (ha : A ≠ [] → ∀ b off l c, av = .slice (some ⟨b, off, none⟩) l c → b ≠ g ∧ b ≠ s) (hl : ∀ b off l c, lv = .slice (some ⟨b, off, none⟩) l c → b ≠ g ∧ b ≠ s) :
    Calls Tryd.prog 22 #[.pointer (some ⟨g, 0, none⟩), av, lv] w fun e w' => e = .returned (.tuple #[]) ∧ Mix w' g s h (xorF (maskF h n (fun i => A.getD i 0) cnt f) (fun i => Z.getD i 0) n) n ∧ Tw w w' g s := by
  obtain ⟨la, lc, rfl, z1, z2, z3, z4⟩ := hZ
  rcases z4 with rfl | ⟨bl, ol, rfl, zc⟩
  · simp at hZl; omega
  have hbl := hl bl ol _ _ rfl
  rw [hZl] at zc ⊢
  have hA0 := hA
  obtain ⟨aa, ac, rfl, a1, a2, a3, a4⟩ := hA
  by_cases hc : cnt = 0
  · subst hc
    rw [Nat.zero_mul] at hAl
    rw [hAl]
    exact mask_nil g s u n bl ol lc f _ h w aa ac k hm hne hg4 hs4 hu hn hbl zc
  · rcases a4 with rfl | ⟨ba, oa, rfl, acell⟩
    · have : 0 < cnt * n := Nat.mul_pos (by omega) (by omega)
      simp at hAl; omega
    · rw [hAl] at hA0 ⊢
      exact mask_some g s u n bl ol lc f _ h w ba oa ac cnt A hA0 hAl (ha (fun e => by rw [e] at hAl; have : 0 < cnt * n := Nat.mul_pos (by omega) (by omega); simp at hAl; omega) ba oa _ _ rfl) hcn k hm hne hg4 hs4 hu hn hbl zc
set_option maxHeartbeats 800000 in
set_option maxRecDepth 100000 in
/-- end, deferred. -/
theorem mendD (g s u : Nat) (f : Nat → Int) (h : Int) (w : World) (k : Hid (Known h)) (hm : Hid (Mix w g s h f u)) (hne : g ≠ s) (hg : 4 ≤ g) :
    CallsD Tryd.prog 20 #[.pointer (some ⟨g, 0, none⟩)] .returning w fun e u' w' => u' = .returning ∧ e = .returned (.tuple #[]) ∧ Tw w w' g s := by
  obtain ⟨s0, zs, hr⟩ := hm.out.rep
  have HR : Hid (Rep w s 0 h (wdOf h) s0 0 zs) := hr
  clear hr
  go_enter_d Tryd.func20, Tryd.ntmps20
  go_wp2_with (first | (go_at_call 32; refine (bwipe g u f w hm.out.mx.1).mono ?_))
  rintro e w1 ⟨rfl, hb1, ht1⟩
  have hm1 : Mx w1 g s (fun _ => 0) 0 := hm.out.mx.touch ht1 hb1
  have hc := hm1.2
  have HR1 : Hid (Rep w1 s 0 h (wdOf h) s0 0 zs) := Rep.far HR.out ht1 (Ne.symm hne)
  have HT1 : Hid (Tables w1) := hm.out.tab.touch ht1 (by omega)
  have HW1 : Hid (Touch w w1 g 0 1025) := ht1
  clear hb1 ht1 hm1
  go_wp2_with (first | (go_at_call 33; refine (sreset s h s0 zs w1 k HR1 HT1).mono ?_))
  rintro e w2 ⟨rfl, _, ht2⟩
  go_wp2
  go_end0
  exact ⟨rfl, (HW1.out.twG s).trans (ht2.twS g)⟩
set_option maxHeartbeats 400000 in
theorem may_ok (cnt : Nat) (hc : cnt < 4000) (w : World) : Calls Tryd.prog 24 #[.int .i64 ((cnt : Int) + 1)] w fun e w' => e = .returned (.bool true) ∧ w' = w := by
  have e1 : decide ((1 : Int) ≤ (cnt : Int) + 1) = true := by simp; omega
  have e2 : decide ((cnt : Int) + 1 ≤ 4000) = true := by simp; omega
  go_enter Tryd.func24, Tryd.ntmps24
  go_wp2
  go_ret
  exact ⟨rfl, rfl⟩
set_option maxHeartbeats 400000 in
theorem random_ok (n cnt m : Nat) (hn : 1 ≤ n ∧ n ≤ 1024) (hc : cnt < 4000) (hm : m = n * cnt) (w : World) : Calls Tryd.prog 21 #[.int .i64 (n : Nat), .int .i64 ((cnt : Int) + 1)] w fun e w' => e = .returned (.tuple #[.int .i64 (m : Nat), .int .i64 0]) ∧ w' = w := by
  have e1 : decide ((n : Int) < 1) = false := by simp; omega
  have e2 : decide ((1024 : Int) < (n : Int)) = false := by simp; omega
  have hml : m ≤ 1024 * 4000 := by rw [hm]; exact Nat.mul_le_mul hn.2 (by omega)
  have hm1 : (n : Int) * (cnt : Int) = (m : Int) := by rw [hm]; simp
  have hw : IntKind.i64.wrap (m : Int) = (m : Int) := wrap64_small (by omega) (by omega)
  clear hm hml
  go_enter Tryd.func21, Tryd.ntmps21
  go_wp2_with (first | (go_at_call 24; refine (may_ok cnt hc _).mono ?_; rintro e w1 ⟨rfl, hw1⟩; obtain rfl := hw1.symm))
  go_ret2
  exact ⟨rfl, rfl⟩
/-- Bytes that lie in a block of their own. -/
structure Mat (w : World) (b : Nat) (zs : List Int) : Prop where
  cell : ∀ i, i < zs.length → w.cell? ⟨b, i, none⟩ = some (.int .u8 (zs.getD i 0))
  there : w.there b 0 zs.length
theorem Mat.kept {w v : World} {b : Nat} {zs : List Int} (h : Mat w b zs) (hb : v.heap[b]? = w.heap[b]?) : Mat v b zs :=
  ⟨fun i hi => by rw [World.cell?_of_block (w := w) hb]; exact h.cell i hi, fun j hj => by rw [World.cell?_of_block (w := w) hb, World.frozen?_of_block (w := w) hb]; exact h.there j hj⟩
theorem Mat.view {w : World} {b : Nat} {zs : List Int} (h : Mat w b zs) (hl : zs.length ≤ 1000000000) : View w (.slice (some ⟨b, 0, none⟩) zs.length zs.length) zs :=
  ⟨_, _, rfl, Nat.le_refl _, by unfold maxLen; omega, (fun e => by cases e), .inr ⟨b, 0, rfl, fun i hi => by rw [Nat.zero_add]; exact h.cell i hi⟩⟩
theorem Mat.laid {w : World} {b p : Nat} {zs : List Int} (h : Mat w b zs) (L : List Int) (hp : p + L.length ≤ zs.length) : Mat (w.setCells b p (cellsU8 L)) b (zs.take p ++ L ++ zs.drop (p + L.length)) := by
  have hl := cellsU8_length L
  have hlen : (zs.take p ++ L ++ zs.drop (p + L.length)).length = zs.length := by simp; omega
  refine ⟨fun i hi => ?_, by rw [hlen]; exact World.there_setCells h.there b p _⟩
  rw [hlen] at hi
  by_cases hin : p ≤ i ∧ i < p + L.length
  · have q := World.cell?_setCells_in b (cellsU8 L) p w (fun j hj => by
      have := (h.there (p + j) (by rw [hl] at hj; omega)).1
      rwa [Nat.zero_add] at this) (i - p) (by rw [hl]; omega)
    rw [show p + (i - p) = i by omega] at q
    rw [q]
    have hip : i - min p zs.length = i - p := by omega
    have e : (zs.take p ++ L ++ zs.drop (p + L.length)).getD i 0 = L.getD (i - p) 0 := by
      rw [List.append_assoc, List.getD_eq_getElem?_getD, List.getElem?_append_right (by simp; omega), List.length_take, hip, List.getElem?_append_left (by omega), List.getD_eq_getElem?_getD]
    rw [e]
    simp [cellsU8, List.getD, List.getElem?_eq_getElem (show i - p < L.length by omega)]
  · rw [World.cell?_setCells_out b (cellsU8 L) p w ⟨b, i, none⟩ (fun _ _ => by rw [hl]; show i < p ∨ p + L.length ≤ i; omega), h.cell i hi]
    have e : (zs.take p ++ L ++ zs.drop (p + L.length)).getD i 0 = zs.getD i 0 := by
      rw [List.getD_eq_getElem?_getD, List.getD_eq_getElem?_getD]
      by_cases h1 : i < p
      · rw [List.append_assoc, List.getElem?_append_left (by simp; omega), List.getElem?_take, if_pos h1]
      · rw [List.getElem?_append_right (by simp; omega), List.getElem?_drop]
        congr 2
        simp
        omega
    rw [e]
/-- What Split answers. -/
def splitL (h : Int) (n cnt : Nat) (Z A : List Int) : List Int := A ++ (List.range n).map (xorF (maskF h n (fun i => A.getD i 0) cnt (fun _ => 0)) (fun i => Z.getD i 0) n)
set_option maxHeartbeats 3200000 in
set_option maxRecDepth 100000 in
theorem split_ok (h : Int) (n cnt : Nat) (zv av : Value) (Z A : List Int) (za aa : Option Addr) (zc ac : Nat) (w : World) (k : Hid (Known h)) (hT : Hid (Tables w)) (hn : 1 ≤ n ∧ n ≤ 1024) (hc : cnt < 4000) (hzv : zv = .slice za n zc) (hav : av = .slice aa (n * cnt) ac) (hZ : Hid (View w zv Z)) (hZl : Hid (Z.length = n)) (hA : Hid (View w av A)) (hAl : Hid (A.length = n * cnt)) :
    Calls Tryd.prog 8 #[.int .i64 h, zv, .int .i64 ((cnt : Int) + 1), av] w fun e w' => ∃ b, e = .returned (.tuple #[.slice (some ⟨b, 0, none⟩) (n * cnt + n) (n * cnt + n), .int .i64 0]) ∧ w.heap.size ≤ b ∧ Mat w' b (splitL h n cnt Z A) ∧ Below w.heap.size w w' := by
  obtain ⟨i0, hi, hz0, hz1, hz2⟩ := info_parts Tryd.info5
  obtain ⟨m, hm⟩ : ∃ m, m = n * cnt := ⟨_, rfl⟩
  rw [← hm] at hav hAl ⊢
  obtain ⟨q, hq⟩ : ∃ q, q = m + n := ⟨_, rfl⟩
  rw [← hq]
  have HM : Hid (m = n * cnt) := hm
  have HQ : Hid (q = m + n) := hq
  have hql : q ≤ 8000000 := by have : m ≤ 1024 * 4000 := by rw [hm]; exact Nat.mul_le_mul hn.2 (by omega)
                               omega
  have hmq : m ≤ q := by omega
  have hqi : ((m : Nat) : Int) + ((n : Nat) : Int) = (q : Nat) := by omega
  subst hzv hav
  clear hm hq
  go_enter_defers Tryd.func8, Tryd.ntmps8
  go_wp2_with (first | (go_at_call 19; refine (mbegin h w k hT).mono ?_))
  rintro e1 w1 ⟨g, s, rfl, hMx, hFr, hsg, hsw, hb1⟩
  have hT4 : 4 ≤ w.heap.size := hT.out.size
  have HMix1 : Hid (Mix w1 g s h (fun _ => 0) 0) := ⟨hMx, ⟨firstE h, [], hFr⟩, hT.out.below hb1 hT4⟩
  have HB1 : Hid (Below w.heap.size w w1) := hb1
  clear hMx hFr hb1
  have HRd : Hid (∀ u, Calls Tryd.prog 21 #[.int .i64 (n : Nat), .int .i64 ((cnt : Int) + 1)] u fun e w' => e = .returned (.tuple #[.int .i64 (m : Nat), .int .i64 0]) ∧ w' = u) := fun u => random_ok n cnt m hn hc HM.out u
  go_wp2_with (first
    | (go_at_call 21; refine (HRd.out _).mono ?_; rintro e2 w2 ⟨rfl, hw2⟩; obtain rfl := hw2.symm)
    | (at_make; go_must (refine wpList_make_full _ rfl _ _ 22 rfl w1.heap.size 5 i0 (.int .u8 0) 1 Tryd.underlying22 hi hz0 hz1 .i64 .i64 (q : Nat) (q : Nat) q rfl rfl rfl rfl ?_ ?_ ?_ ?_)))
  · rw [hz2]; omega
  · unfold maxLen; omega
  · exact Nat.le_refl _
  intro w2 hown hgr
  have hB12 : Below w1.heap.size w1 w2 := (Below.refl _ _).grown hgr (Nat.le_refl _) (by intro k hk; cases hk)
  have HMt2 : Hid (Mat w2 w1.heap.size (List.replicate q 0)) := by
    have hl : (List.replicate q (Value.int .u8 0)).length = q := by simp
    refine ⟨fun i hi' => ?_, fun j hj => ⟨?_, hown.frozenAt _⟩⟩
    · simp at hi'
      rw [hown.cellAt i (by omega)]
      simp [hi', List.getD, madeCells, Nat.mod_one]
    · simp at hj
      rw [Nat.zero_add, hown.cellAt j (by omega)]
      simp [hj, madeCells]
  have HMix2 : Hid (Mix w2 g s h (fun _ => 0) 0) := HMix1.out.below hB12
  have HB2 : Hid (Below w.heap.size w w2) := HB1.out.trans (hB12.mono HB1.out.size)
  have hgw1 : g < w1.heap.size := HMix1.out.gt
  have hw12 : w1.heap.size < w2.heap.size := by
    have := World.block_lt_of_cell? w2 _ (HMt2.out.cell 0 (by simp; omega))
    simpa using this
  have hB12' : Hid (Below w1.heap.size w1 w2) := hB12
  clear hown hgr hB12
  have hB12 := hB12'
  clear hB12'
  have hAv2 : View w2 (.slice aa m ac) A := hA.out.kept HB2.out.block
  have hcp := copy_eq w2 w1.heap.size 0 q q aa m ac m A (by omega) hAv2 (fun j hj => HMt2.out.there j (by simp; omega))
  rw [List.take_of_length_le (by have := hAl.out; omega)] at hcp
  obtain ⟨w3, HW3⟩ : ∃ w3, Hid (w3 = w2.setCells w1.heap.size 0 (cellsU8 A)) := ⟨_, rfl⟩
  rw [← HW3.out] at hcp
  have hB23 : Below w1.heap.size w2 w3 := by rw [HW3.out]; exact below_setCells _ (Nat.le_refl _) _ _ _ (Below.refl _ _)
  have HMt3 : Hid (Mat w3 w1.heap.size (A ++ List.replicate n 0)) := by
    have e := HMt2.out.laid (p := 0) A (by have := hAl.out; have := HQ.out; simp; omega)
    rw [← HW3.out] at e
    have e2 : (List.replicate q (0 : Int)).take 0 ++ A ++ (List.replicate q (0 : Int)).drop (0 + A.length) = A ++ List.replicate n 0 := by
      have := hAl.out; have := HQ.out
      rw [List.take_zero, List.nil_append, List.drop_replicate, show q - (0 + A.length) = n by omega]
    rw [e2] at e
    exact e
  have HMix3 : Hid (Mix w3 g s h (fun _ => 0) 0) := HMix2.out.kept (hB23.block g hgw1) (hB23.block s (by omega)) (fun j hj => hB23.block j (by omega))
  have hs1 := HB1.out.size
  have HB3 : Hid (Below w.heap.size w w3) := HB2.out.trans (hB23.mono hs1)
  have hw13 : w1.heap.size < w3.heap.size := Nat.lt_of_lt_of_le hw12 hB23.size
  have far : ∀ (v : Value) (zs : List Int), View w v zs → zs ≠ [] → ∀ b off l c, v = .slice (some ⟨b, off, none⟩) l c → b ≠ g ∧ b ≠ s := by
    intro v zs hv hz b off l c e
    obtain ⟨a, cap, e1, h1, h2, h3, h4⟩ := hv
    rcases h4 with h4 | ⟨b', p', e2, hcc⟩
    · exact absurd h4 hz
    · rw [e] at e1
      injection e1 with e3 _ _
      rw [e2] at e3
      injection e3 with e3
      injection e3 with e4 _
      have := World.block_lt_of_cell? w _ (hcc 0 (by cases zs with | nil => exact absurd rfl hz | cons _ _ => simp))
      simp at this
      omega
  have HMk : Hid (Calls Tryd.prog 22 #[.pointer (some ⟨g, 0, none⟩), .slice aa m ac, .slice za n zc] w3 fun e w' => e = .returned (.tuple #[]) ∧ Mix w' g s h (xorF (maskF h n (fun i => A.getD i 0) cnt (fun _ => 0)) (fun i => Z.getD i 0) n) n ∧ Tw w3 w' g s) := by
    refine mask_ok g s 0 n cnt _ _ _ A Z h w3 k.out HMix3.out (by omega) (by omega) (by omega) (by omega) hn (hA.out.kept HB3.out.block) (by rw [hAl.out, HM.out, Nat.mul_comm]) ?_ (hZ.out.kept HB3.out.block) hZl.out (far _ A hA.out) (far _ Z hZ.out (by rintro rfl; have := hZl.out; simp at this; omega))
    have := HM.out
    rw [Nat.mul_comm]
    omega
  have HTw13 : Hid (Tw w1 w3 g s) := Below.tw (hB12.out.trans hB23) g s
  clear hAv2 hB23 HMt2 HMix2 far
  go_wp2_with (first | (go_at_call 22; refine HMk.out.mono ?_))
  rintro e4 w4 ⟨rfl, hM4, hT4'⟩
  have HMix4 : Hid (Mix w4 g s h (xorF (maskF h n (fun i => A.getD i 0) cnt (fun _ => 0)) (fun i => Z.getD i 0) n) n) := hM4
  have HTw4 : Hid (Tw w3 w4 g s) := hT4'
  have HMt4 : Hid (Mat w4 w1.heap.size (A ++ List.replicate n 0)) := HMt3.out.kept (hT4'.block w1.heap.size hw13 (by omega) (by omega))
  clear hM4 hT4' hcp HMk
  generalize hF : xorF (maskF h n (fun i => A.getD i 0) cnt (fun _ => 0)) (fun i => Z.getD i 0) n = F at HMix4
  have HFF : Hid (splitL h n cnt Z A = A ++ (List.range n).map F) := by show _ = _; rw [splitL, hF]
  clear hF
  have hsl : Hid (∀ u, (Instr.slice 22 (.slice (some ⟨w1.heap.size, 0, none⟩) q q) (some (.int .i64 (m : Nat))) none none).run Tryd.prog u = .ok (.slice (some ⟨w1.heap.size, m, none⟩) n n) u) := fun u => by
    have := HQ.out
    rw [run_slice_l u 22 (some ⟨w1.heap.size, 0, none⟩) q q und22p .i64 m (by omega) (by omega), elem22p, sizeOf5p]
    simp [Result.andThen, sliced, Addr.add, show ¬ q = m by omega, show q - m = n by omega]
    try (intro hh; omega)
  have HT : Hid (∀ v, v = w4.drew → Calls Tryd.prog 23 #[.pointer (some ⟨g, 0, none⟩), .slice (some ⟨w1.heap.size, m, none⟩) n n] v fun e w' => e = .returned (.tuple #[]) ∧ Mat w' w1.heap.size (splitL h n cnt Z A) ∧ Mix w' g s h F n ∧ Tw w1 w' g s) := by
    rintro v rfl
    have hbv : Below w4.heap.size w4 w4.drew := (Below.refl _ _).drew
    have htr : (A ++ List.replicate n (0 : Int)).length = q := by have := hAl.out; have := HQ.out; simp; omega
    refine (tell_ok g n w1.heap.size m n n F w4.drew (HMix4.out.below hbv).mx.1 hn.2 (Nat.le_refl _) (fun j hj => by
      have := HQ.out
      have q1 := HMt4.out.there (m + j) (by rw [htr]; omega)
      rwa [Nat.zero_add] at q1)).mono ?_
    rintro e w' ⟨rfl, d, rfl⟩
    have hbd : Below w4.heap.size w4 (w4.drew.drewN d) := ⟨rfl, rfl, rfl, Nat.le_refl _, fun _ _ => rfl⟩
    have hw34 := HTw4.out.size
    have hgs : ∀ i, i < w4.heap.size → i ≠ w1.heap.size → ((w4.drew.drewN d).setCells w1.heap.size m (cellsU8 ((List.range n).map F))).heap[i]? = w4.heap[i]? := fun i hi' hne' => World.heap_setCells_other _ _ m _ hi' hne'
    refine ⟨rfl, ?_, HMix4.out.kept (hgs g (by omega) (by omega)) (hgs s (by omega) (by omega)) (fun j hj => hgs j (by omega) (by omega)), ((HTw13.out.trans HTw4.out).below hbd).setNew (Nat.le_refl _) m _⟩
    have e2 := (HMt4.out.kept (v := w4.drew.drewN d) rfl).laid (p := m) ((List.range n).map F) (by have := HQ.out; rw [htr]; simp; omega)
    rw [HFF.out]
    have e3 : (A ++ List.replicate n (0 : Int)).take m ++ (List.range n).map F ++ (A ++ List.replicate n (0 : Int)).drop (m + ((List.range n).map F).length) = A ++ (List.range n).map F := by
      rw [List.take_left' hAl.out, List.drop_of_length_le (by rw [htr]; have := HQ.out; simp; omega), List.append_nil]
    rw [e3] at e2
    exact e2
  go_upto_region 13 with fail
  refine wp_region_noPanic ?_
  refine wp_region_held_drew (S := fun _ => True) (by kernel_rfl) (trivial) (fun _ => ?_)
  refine takeH_at 0 49 (.pointer (some ⟨g, 0, none⟩)) rfl rfl (by kernel_rfl) (by kernel_rfl) (by kernel_rfl) (fun _ _ _ h => h) trivial (Or.inl ⟨by kernel_rfl, fun w' hS' => by go_simp⟩) ?_
  simp only [List.setIfInBounds_toArray, List.set_cons_zero, List.set_cons_succ]
  refine takeH_at 1 50 (.pointer (some ⟨g, 0, none⟩)) rfl rfl (by kernel_rfl) (by kernel_rfl) (by kernel_rfl) (fun _ _ _ h => h) trivial (Or.inl ⟨by kernel_rfl, fun w' hS' => by go_simp⟩) ?_
  simp only [List.setIfInBounds_toArray, List.set_cons_zero, List.set_cons_succ]
  refine takeH_at 2 51 (.pointer (some ⟨g, 0, none⟩)) rfl rfl (by kernel_rfl) (by kernel_rfl) (by kernel_rfl) (fun _ _ _ h => h) trivial (Or.inl ⟨by kernel_rfl, fun w' hS' => by go_simp⟩) ?_
  simp only [List.setIfInBounds_toArray, List.set_cons_zero, List.set_cons_succ]
  refine takeH_at 3 52 (.slice (some ⟨w1.heap.size, 0, none⟩) q q) rfl rfl (by kernel_rfl) (by kernel_rfl) (by kernel_rfl) (fun _ _ _ h => h) trivial (Or.inl ⟨by kernel_rfl, fun w' hS' => by go_simp⟩) ?_
  simp only [List.setIfInBounds_toArray, List.set_cons_zero, List.set_cons_succ]
  refine takeH_at 4 53 (.int .i64 (m : Nat)) rfl rfl (by kernel_rfl) (by kernel_rfl) (by kernel_rfl) (fun _ _ _ h => h) trivial (Or.inl ⟨by kernel_rfl, fun w' hS' => by go_simp⟩) ?_
  simp only [List.setIfInBounds_toArray, List.set_cons_zero, List.set_cons_succ]
  refine takeH_at 5 54 (.slice (some ⟨w1.heap.size, m, none⟩) n n) rfl rfl (by kernel_rfl) (by kernel_rfl) (by kernel_rfl) (fun _ _ _ h => h) trivial (Or.inl ⟨by kernel_rfl, fun w' hS' => by have q1 := hsl.out w'; go_simp⟩) ?_
  simp only [List.setIfInBounds_toArray, List.set_cons_zero, List.set_cons_succ]
  refine wpAnyH_ready (rs := [6]) (by kernel_rfl) (by simp) ?_
  refine AllReadyH.cons rfl (fun K hK => ?_) AllReadyH.nil
  go_simp
  refine (HT.out _ rfl).mono ?_
  rintro e5 w5 ⟨rfl, hMt5, hMix5, hTw5⟩
  go_wp2_with fail
  refine hK.out _ _ trivial (fun _ => ?_)
  clear hK K
  try simp only [List.setIfInBounds_toArray, List.set_cons_zero, List.set_cons_succ]
  refine wpAnyH_done (by kernel_rfl) ?_ _
  refine NoPanic.normal ?_
  go_wp2_with fail
  refine leaves_cons (f := 20) (args := #[.pointer (some ⟨g, 0, none⟩)]) (by simp) (by simp [go_sem]) ?_
  refine (mendD g s n F h w5 k hMix5 (by omega) (by omega)).mono ?_
  rintro e6 u6 w6 ⟨rfl, rfl, hT6⟩
  have hw5 : w1.heap.size < w5.heap.size := by
    have := World.block_lt_of_cell? w5 _ (hMt5.cell 0 (by rw [HFF.out]; simp; omega))
    simpa using this
  have hfin : w.heap.size ≤ w1.heap.size ∧ Mat w6 w1.heap.size (splitL h n cnt Z A) ∧ Below w.heap.size w w6 := by
    refine ⟨hs1, hMt5.kept (hT6.block w1.heap.size hw5 (by omega) (by omega)), HB1.out.trans ?_⟩
    exact (hTw5.trans hT6).toBelow (by omega) (by omega) hs1
  refine ⟨_, results_tmp2 rfl _ _ _, w1.heap.size, rfl, hfin⟩
/-- What Merge answers. -/
def mergeL (h : Int) (n cnt : Nat) (M : List Int) : List Int := (List.range n).map (xorF (maskF h n (fun i => (M.take (n * cnt)).getD i 0) cnt (fun _ => 0)) (fun i => (M.drop (n * cnt)).getD i 0) n)
set_option maxHeartbeats 3200000 in
set_option maxRecDepth 100000 in
theorem merge_ok (h : Int) (n cnt : Nat) (M : List Int) (mb mo mc : Nat) (w : World) (k : Hid (Known h)) (hT : Hid (Tables w)) (hn : 1 ≤ n ∧ n ≤ 1024) (hc : cnt < 4000) (hM : Hid (View w (.slice (some ⟨mb, mo, none⟩) (n * cnt + n) mc) M)) (hMl : Hid (M.length = n * cnt + n)) :
    Calls Tryd.prog 9 #[.int .i64 h, .slice (some ⟨mb, mo, none⟩) (n * cnt + n) mc, .int .i64 ((cnt : Int) + 1)] w fun e w' => ∃ b, e = .returned (.tuple #[.slice (some ⟨b, 0, none⟩) n n, .int .i64 0]) ∧ w.heap.size ≤ b ∧ Mat w' b (mergeL h n cnt M) ∧ Below w.heap.size w w' := by
  obtain ⟨i0, hi, hz0, hz1, hz2⟩ := info_parts Tryd.info5
  obtain ⟨m, hm⟩ : ∃ m, m = n * cnt := ⟨_, rfl⟩
  rw [← hm] at hM hMl ⊢
  obtain ⟨q, hq⟩ : ∃ q, q = m + n := ⟨_, rfl⟩
  rw [← hq] at hM hMl ⊢
  have HM : Hid (m = n * cnt) := hm
  have HQ : Hid (q = m + n) := hq
  have hml : m ≤ 1024 * 4000 := by rw [hm]; exact Nat.mul_le_mul hn.2 (by omega)
  have hdiv : ((q : Nat) : Int) / ((cnt : Int) + 1) = (n : Nat) := by
    have e : (q : Int) = ((n * (cnt + 1) : Nat) : Int) := by rw [hq, hm, Nat.mul_succ]
    rw [e]
    have e2 : ((cnt : Int) + 1) = ((cnt + 1 : Nat) : Int) := by simp
    rw [e2, ← Int.natCast_ediv, Nat.mul_div_cancel _ (by omega)]
  have htd : ((q : Nat) : Int).tdiv ((cnt : Int) + 1) = (n : Nat) := by
    rw [Int.tdiv_eq_ediv_of_nonneg (by omega)]
    exact hdiv
  have hmul : ((n : Nat) : Int) * ((cnt : Int) + 1) = (q : Nat) := by
    rw [hq, hm, Int.mul_add, Int.mul_one]
    simp
  have hnz : ¬ ((cnt : Int) + 1 = 0) := by omega
  have hsub : ((q : Nat) : Int) - ((n : Nat) : Int) = (m : Nat) := by omega
  have hqn : n ≤ q := by omega
  have hmq : m < q := by omega
  have hqc : q ≤ mc := by
    obtain ⟨a', c', e, q1, q2, _⟩ := hM.out
    injection e with e1 e2 e3
    omega
  clear hm hq
  go_enter_defers Tryd.func9, Tryd.ntmps9
  go_wp2_with (first | (go_at_call 19; refine (mbegin h w k hT).mono ?_))
  rintro e1 w1 ⟨g, s, rfl, hMx, hFr, hsg, hsw, hb1⟩
  have hT4 : 4 ≤ w.heap.size := hT.out.size
  have HMix1 : Hid (Mix w1 g s h (fun _ => 0) 0) := ⟨hMx, ⟨firstE h, [], hFr⟩, hT.out.below hb1 hT4⟩
  have HB1 : Hid (Below w.heap.size w w1) := hb1
  clear hMx hFr hb1
  go_wp2_with (first | (go_at_call 24; refine (may_ok cnt hc _).mono ?_; rintro e2 w2 ⟨rfl, hw2⟩; obtain rfl := hw2.symm))
  have hgw1 : g < w1.heap.size := HMix1.out.gt
  have hs1 := HB1.out.size
  have hM1 : View w1 (.slice (some ⟨mb, mo, none⟩) q mc) M := hM.out.kept HB1.out.block
  have hmb : mb < w.heap.size ∧ (∀ i, i < q → w1.cell? ⟨mb, mo + i, none⟩ = some (.int .u8 (M.getD i 0))) ∧ mc ≤ maxLen := by
    have hl := hMl.out
    obtain ⟨a', c', e, q1, q2, q3, q4⟩ := hM.out
    obtain ⟨a2, c2, e', p1, p2, p3, p4⟩ := hM1
    injection e with e1 e2 e3
    injection e' with f1 f2 f3
    rcases q4 with q4 | ⟨b, o, e4, hcc⟩
    · rw [q4] at hl; simp at hl; omega
    · rcases p4 with p4 | ⟨b', o', e5, hcc'⟩
      · rw [p4] at hl; simp at hl; omega
      · rw [e4] at e1
        injection e1 with e1
        injection e1 with e6 e7
        rw [e5] at f1
        injection f1 with f1
        injection f1 with f6 f7
        refine ⟨?_, fun i hi' => ?_, by omega⟩
        · have := World.block_lt_of_cell? w _ (hcc 0 (by omega))
          simp at this
          omega
        · rw [f6, f7]
          exact hcc' i (by omega)
  have HMk : Hid (Calls Tryd.prog 22 #[.pointer (some ⟨g, 0, none⟩), .slice (some ⟨mb, mo, none⟩) m mc, .slice (some ⟨mb, mo + m, none⟩) n (mc - m)] w1.drew fun e w' => e = .returned (.tuple #[]) ∧ Mix w' g s h (xorF (maskF h n (fun i => (M.take m).getD i 0) cnt (fun _ => 0)) (fun i => (M.drop m).getD i 0) n) n ∧ Tw w1.drew w' g s) := by
    have hl := hMl.out
    have hQ := HQ.out
    have v1 : View w1.drew (.slice (some ⟨mb, mo, none⟩) m mc) (M.take m) := ⟨_, mc, by simp; omega, by simp; omega, hmb.2.2, (fun e => by cases e), .inr ⟨mb, mo, rfl, fun i hi' => by
      simp at hi'
      have q1 := hmb.2.1 i (by omega)
      show w1.cell? _ = _
      rw [q1]
      simp [List.getD, List.getElem?_take, show i < m by omega]⟩⟩
    have v2 : View w1.drew (.slice (some ⟨mb, mo + m, none⟩) n (mc - m)) (M.drop m) := ⟨_, mc - m, by simp; omega, by simp; omega, by have := hmb.2.2; omega, (fun e => by cases e), .inr ⟨mb, mo + m, rfl, fun i hi' => by
      simp at hi'
      have q1 := hmb.2.1 (m + i) (by omega)
      show w1.cell? _ = _
      rw [Nat.add_assoc, q1]
      simp [List.getD]⟩⟩
    refine mask_ok g s 0 n cnt _ _ _ (M.take m) (M.drop m) h w1.drew k.out (HMix1.out.below (Below.refl _ _).drew) (by omega) (by omega) (by omega) (by omega) hn v1 (by rw [List.length_take, hl, Nat.min_eq_left (by omega), HM.out, Nat.mul_comm]) ?_ v2 (by simp; omega) ?_ ?_
    · have := HM.out
      rw [Nat.mul_comm]
      omega
    · intro _ b off l c e
      injection e with e1
      injection e1 with e1
      injection e1 with e1
      omega
    · intro b off l c e
      injection e with e1
      injection e1 with e1
      injection e1 with e1
      omega
  have hsl1 : Hid (∀ u, (Instr.slice 22 (.slice (some ⟨mb, mo, none⟩) q mc) none (some (.int .i64 (m : Nat))) none).run Tryd.prog u = .ok (.slice (some ⟨mb, mo, none⟩) m mc) u) := fun u => by
    rw [run_slice_h u 22 (some ⟨mb, mo, none⟩) q mc und22p .i64 m (by omega) (by omega), elem22p, sizeOf5p]
    simp [Result.andThen, sliced, Addr.add]
  have hsl2 : Hid (∀ u, (Instr.slice 22 (.slice (some ⟨mb, mo, none⟩) q mc) (some (.int .i64 (m : Nat))) none none).run Tryd.prog u = .ok (.slice (some ⟨mb, mo + m, none⟩) n (mc - m)) u) := fun u => by
    have := HQ.out
    rw [run_slice_l u 22 (some ⟨mb, mo, none⟩) q mc und22p .i64 m (by omega) (by omega), elem22p, sizeOf5p]
    simp [Result.andThen, sliced, Addr.add, show ¬ mc = m by omega, show q - m = n by omega]
  clear hmb hM1
  refine wp_region_noPanic ?_
  refine wp_region_held_drew (S := fun _ => True) (by kernel_rfl) (trivial) (fun _ => ?_)
  refine takeH_at 0 47 (.pointer (some ⟨g, 0, none⟩)) rfl rfl (by kernel_rfl) (by kernel_rfl) (by kernel_rfl) (fun _ _ _ h => h) trivial (Or.inl ⟨by kernel_rfl, fun w' hS' => by go_simp⟩) ?_
  simp only [List.setIfInBounds_toArray, List.set_cons_zero, List.set_cons_succ]
  refine takeH_at 1 48 (.slice (some ⟨mb, mo, none⟩) q mc) rfl rfl (by kernel_rfl) (by kernel_rfl) (by kernel_rfl) (fun _ _ _ h => h) trivial (Or.inl ⟨by kernel_rfl, fun w' hS' => by go_simp⟩) ?_
  simp only [List.setIfInBounds_toArray, List.set_cons_zero, List.set_cons_succ]
  refine takeH_at 2 49 (.int .i64 (m : Nat)) rfl rfl (by kernel_rfl) (by kernel_rfl) (by kernel_rfl) (fun _ _ _ h => h) trivial (Or.inl ⟨by kernel_rfl, fun w' hS' => by go_simp⟩) ?_
  simp only [List.setIfInBounds_toArray, List.set_cons_zero, List.set_cons_succ]
  refine takeH_at 3 50 (.slice (some ⟨mb, mo, none⟩) m mc) rfl rfl (by kernel_rfl) (by kernel_rfl) (by kernel_rfl) (fun _ _ _ h => h) trivial (Or.inl ⟨by kernel_rfl, fun w' hS' => by have q1 := hsl1.out w'; go_simp⟩) ?_
  simp only [List.setIfInBounds_toArray, List.set_cons_zero, List.set_cons_succ]
  refine takeH_at 4 51 (.slice (some ⟨mb, mo, none⟩) q mc) rfl rfl (by kernel_rfl) (by kernel_rfl) (by kernel_rfl) (fun _ _ _ h => h) trivial (Or.inl ⟨by kernel_rfl, fun w' hS' => by go_simp⟩) ?_
  simp only [List.setIfInBounds_toArray, List.set_cons_zero, List.set_cons_succ]
  refine takeH_at 5 52 (.int .i64 (m : Nat)) rfl rfl (by kernel_rfl) (by kernel_rfl) (by kernel_rfl) (fun _ _ _ h => h) trivial (Or.inl ⟨by kernel_rfl, fun w' hS' => by go_simp⟩) ?_
  simp only [List.setIfInBounds_toArray, List.set_cons_zero, List.set_cons_succ]
  refine takeH_at 6 53 (.slice (some ⟨mb, mo + m, none⟩) n (mc - m)) rfl rfl (by kernel_rfl) (by kernel_rfl) (by kernel_rfl) (fun _ _ _ h => h) trivial (Or.inl ⟨by kernel_rfl, fun w' hS' => by have q1 := hsl2.out w'; go_simp⟩) ?_
  simp only [List.setIfInBounds_toArray, List.set_cons_zero, List.set_cons_succ]
  refine wpAnyH_ready (rs := [7]) (by kernel_rfl) (by simp) ?_
  refine AllReadyH.cons rfl (fun K hK => ?_) AllReadyH.nil
  go_simp
  refine HMk.out.mono ?_
  rintro e4 w4 ⟨rfl, hM4, hT4'⟩
  go_wp2_with fail
  refine hK.out _ _ trivial (fun _ => ?_)
  clear hK K
  try simp only [List.setIfInBounds_toArray, List.set_cons_zero, List.set_cons_succ]
  refine wpAnyH_done (by kernel_rfl) ?_ _
  refine NoPanic.normal ?_
  have HMix4 : Hid (Mix w4 g s h (xorF (maskF h n (fun i => (M.take m).getD i 0) cnt (fun _ => 0)) (fun i => (M.drop m).getD i 0) n) n) := hM4
  have HTw4 : Hid (Tw w1 w4 g s) := (Below.tw ((Below.refl w1.heap.size w1).drew) g s).trans hT4'
  clear hM4 hT4' HMk hsl1 hsl2
  have hme : mergeL h n cnt M = (List.range n).map (xorF (maskF h n (fun i => (M.take m).getD i 0) cnt (fun _ => 0)) (fun i => (M.drop m).getD i 0) n) := by rw [mergeL, ← HM.out]
  generalize xorF (maskF h n (fun i => (M.take m).getD i 0) cnt (fun _ => 0)) (fun i => (M.drop m).getD i 0) n = F at HMix4 hme
  have HFF : Hid (mergeL h n cnt M = (List.range n).map F) := hme
  clear hme
  go_wp2_with (first
    | (at_make; go_must (refine wpList_make_full _ rfl _ _ 22 rfl w4.heap.size 5 i0 (.int .u8 0) 1 Tryd.underlying22 hi hz0 hz1 .i64 .i64 (n : Nat) (n : Nat) n rfl rfl rfl rfl ?_ ?_ ?_ ?_)))
  · rw [hz2]; omega
  · unfold maxLen; omega
  · exact Nat.le_refl _
  intro w2 hown hgr
  have hB42 : Below w4.heap.size w4 w2 := (Below.refl _ _).grown hgr (Nat.le_refl _) (by intro k hk; cases hk)
  have HMt2 : Hid (Mat w2 w4.heap.size (List.replicate n 0)) := by
    refine ⟨fun i hi' => ?_, fun j hj => ⟨?_, hown.frozenAt _⟩⟩
    · simp at hi'
      rw [hown.cellAt i (by omega)]
      simp [hi', List.getD, madeCells, Nat.mod_one]
    · simp at hj
      rw [Nat.zero_add, hown.cellAt j (by omega)]
      simp [hj, madeCells]
  have HMix2 : Hid (Mix w2 g s h F n) := HMix4.out.below hB42
  have hw42 : w4.heap.size < w2.heap.size := by
    have := World.block_lt_of_cell? w2 _ (HMt2.out.cell 0 (by simp; omega))
    simpa using this
  have hg4 : g < w4.heap.size := HMix4.out.gt
  have HTw2 : Hid (Tw w1 w2 g s) := HTw4.out.below hB42
  have hw14 := HTw4.out.size
  clear hown hgr hB42
  have HT : Hid (Calls Tryd.prog 23 #[.pointer (some ⟨g, 0, none⟩), .slice (some ⟨w4.heap.size, 0, none⟩) n n] w2 fun e w' => e = .returned (.tuple #[]) ∧ Mat w' w4.heap.size (mergeL h n cnt M) ∧ Mix w' g s h F n ∧ Tw w1 w' g s) := by
    refine (tell_ok g n w4.heap.size 0 n n F w2 HMix2.out.mx.1 hn.2 (Nat.le_refl _) (fun j hj => HMt2.out.there j (by simpa using hj))).mono ?_
    rintro e w' ⟨rfl, d, rfl⟩
    have hbd : Below w2.heap.size w2 (w2.drewN d) := ⟨rfl, rfl, rfl, Nat.le_refl _, fun _ _ => rfl⟩
    have hgs : ∀ i, i < w2.heap.size → i ≠ w4.heap.size → ((w2.drewN d).setCells w4.heap.size 0 (cellsU8 ((List.range n).map F))).heap[i]? = w2.heap[i]? := fun i hi' hne' => World.heap_setCells_other _ _ 0 _ hi' hne'
    refine ⟨rfl, ?_, HMix2.out.kept (hgs g (by omega) (by omega)) (hgs s (by omega) (by omega)) (fun j hj => hgs j (by omega) (by omega)), (HTw2.out.below hbd).setNew (by omega) 0 _⟩
    have e2 := (HMt2.out.kept (v := w2.drewN d) rfl).laid (p := 0) ((List.range n).map F) (by simp)
    rw [HFF.out]
    have e3 : (List.replicate n (0 : Int)).take 0 ++ (List.range n).map F ++ (List.replicate n (0 : Int)).drop (0 + ((List.range n).map F).length) = (List.range n).map F := by
      rw [List.take_zero, List.nil_append, List.drop_of_length_le (by simp), List.append_nil]
    rw [e3] at e2
    exact e2
  go_wp2_with (first | (go_at_call 23; refine HT.out.mono ?_))
  rintro e5 w5 ⟨rfl, hMt5, hMix5, hTw5⟩
  have HMt5 : Hid (Mat w5 w4.heap.size (mergeL h n cnt M)) := hMt5
  have HMix5 : Hid (Mix w5 g s h F n) := hMix5
  have HTw5 : Hid (Tw w1 w5 g s) := hTw5
  clear hMt5 hMix5 hTw5
  go_wp2_with fail
  refine leaves_cons (f := 20) (args := #[.pointer (some ⟨g, 0, none⟩)]) (by simp) (by simp [go_sem]) ?_
  refine (mendD g s n F h w5 k HMix5 (by omega) (by omega)).mono ?_
  rintro e6 u6 w6 ⟨rfl, rfl, hT6⟩
  have hw5 : w4.heap.size < w5.heap.size := by
    have := World.block_lt_of_cell? w5 _ (HMt5.out.cell 0 (by rw [HFF.out]; simp; omega))
    simpa using this
  have hfin : w.heap.size ≤ w4.heap.size ∧ Mat w6 w4.heap.size (mergeL h n cnt M) ∧ Below w.heap.size w w6 := by
    refine ⟨by omega, HMt5.out.kept (hT6.block w4.heap.size hw5 (by omega) (by omega)), HB1.out.trans ?_⟩
    exact (HTw5.out.trans hT6).toBelow (by omega) (by omega) hs1
  refine ⟨_, results_tmp2 rfl _ _ _, w4.heap.size, rfl, hfin⟩
end Go.Proofs.YtcopkohklgbpgaaDoor
