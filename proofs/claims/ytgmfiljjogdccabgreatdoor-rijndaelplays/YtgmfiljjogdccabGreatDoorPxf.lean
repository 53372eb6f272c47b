import Derived.Test.YtgmfiljjogdccabGreatDoorPart00
import Derived.Test.YtgmfiljjogdccabGreatDoorPart35
import Derived.Test.YtgmfiljjogdccabGreatDoorBke
namespace Go.Proofs.YtgmfiljjogdccabGreatDoor
open Go.RowKit
set_option linter.unusedVariables false
/-- Unwrapping's last loop has come to x. -/
structure UT (w u : World) (ba br bb n i x : Nat) (X : Nat × (Nat → Nat)) (Y : W4) : Prop where
 old : Below w.heap.size w u
 a : Ab u ba 8 (fun q => if q < x then byteK Y.hi q else byteK X.1 q)
 r : Ab u br (8 * n) (fun q => if 8 * i ≤ q ∧ q < 8 * i + x then byteK Y.lo (q - 8 * i) else flt X.2 q)
 b : Ab u bb 16 (sb Y)
 lt : w.heap.size ≤ ba ∧ ba < br ∧ br < bb ∧ bb < u.heap.size
theorem ut_end {w u : World} {ba br bb n i : Nat} {X : Nat × (Nat → Nat)} {Y : W4} (h : UT w u ba br bb n i 8 X Y) : WS w u ba br n (Y.hi, setR X.2 i Y.lo) := by
 refine ⟨h.old, h.a.congr (fun q hq => by rw [if_pos hq]), h.r.congr (fun q hq => ?_), by have := h.lt; omega⟩
 unfold flt
 by_cases e : 8 * i ≤ q ∧ q < 8 * i + 8
 ·rw [if_pos e]
  show _ = byteK (setR X.2 i Y.lo (q / 8)) (q % 8)
  rw [show q / 8 = i by omega, setR_same, show q - 8 * i = q % 8 by omega]
 ·rw [if_neg e]
  show _ = byteK (setR X.2 i Y.lo (q / 8)) (q % 8)
  rw [setR_other _ _ (by omega)]
/-- What Unwrap answers. -/
def RUnP (w : World) (q8 : Nat) (F : Nat × (Nat → Nat)) (e : Ending) (w' : World) : Prop := Below w.heap.size w w' ∧ ((F.1 = 12008468691120727718 ∧ ∃ s c, e = .returned (.tuple #[.slice (some ⟨s, 0, none⟩) q8 c, .int .i64 0]) ∧ w.heap.size ≤ s ∧ q8 ≤ c ∧ c ≤ maxLen ∧ Ab w' s q8 (flt F.2)) ∨ (F.1 ≠ 12008468691120727718 ∧ e = .returned (.tuple #[.slice none 0 0, .int .i64 22])))
theorem mark_of {A : Nat} (hA : A < 18446744073709551616) (h : ∀ x, x < 8 → byteK A x = 166) : A = 12008468691120727718 := by
 have h1 := numK_byteK A hA
 have h2 := numK_byteK 12008468691120727718 (by decide)
 rw [← h1, ← h2, numK_word, numK_word]
 rw [h 0 (by omega), h 1 (by omega), h 2 (by omega), h 3 (by omega), h 4 (by omega), h 5 (by omega), h 6 (by omega), h 7 (by omega), mark_byte 0 (by omega), mark_byte 1 (by omega), mark_byte 2 (by omega), mark_byte 3 (by omega), mark_byte 4 (by omega), mark_byte 5 (by omega), mark_byte 6 (by omega), mark_byte 7 (by omega)]
set_option maxHeartbeats 6400000 in
set_option maxRecDepth 100000 in
theorem runwrap_ok (g gr nk n b po cap m : Nat) (K : Nat → Nat) (f : Nat → Nat) (w : World) (hr : RefAt w g gr nk K) (hnk : nk ≤ 8) (hK : ∀ i, K i < 4294967296) (h1 : 2 ≤ n) (h2 : n ≤ 512) (h8 : m = 8 + 8 * n) (hcap : m ≤ cap) (hb : b < w.heap.size) (hp : ∀ i, i < m → w.cell? ⟨b, po + i, none⟩ = some (.int .u8 (f i : Nat))) (hf : ∀ i, f i < 256) :
  Calls Tryz.prog 29 #[.pointer (some ⟨g, 0, none⟩), .slice (some ⟨b, po, none⟩) m cap] w (RUnP w (8 * n) (aft (unStep (nk + 6) K n) (6 * n) (un0 f))) := by
 obtain ⟨i0, hi, hz0, hz1, hz2⟩ := info_parts Tryz.info5
 obtain ⟨c8, rfl⟩ : ∃ c, cap = c + 8 := ⟨cap - 8, by omega⟩
 obtain ⟨F, HF⟩ : ∃ F, Hid (aft (unStep (nk + 6) K n) (6 * n) (un0 f) = F) := ⟨_, rfl⟩
 rw [HF.out]
 obtain ⟨q8, HQ8⟩ : ∃ q, Hid (q = 8 * n) := ⟨_, rfl⟩
 rw [← HQ8.out]
 have HR : Hid (RefAt w g gr nk K) := hr
 have HKK : Hid (nk ≤ 8 ∧ ∀ i, K i < 4294967296) := ⟨hnk, hK⟩
 have HP : Hid (b < w.heap.size ∧ (∀ i, i < m → w.cell? ⟨b, po + i, none⟩ = some (.int .u8 (f i : Nat))) ∧ (∀ i, f i < 256)) := ⟨hb, hp, hf⟩
 have HM : Hid (m = 8 + q8) := by show _ = _; rw [HQ8.out]; exact h8
 obtain ⟨n1, HN1⟩ : ∃ n1, Hid (n1 = n + 1) := ⟨_, rfl⟩
 have hmd : ((m : Nat) : Int) / 8 = (n1 : Nat) := by have := HN1.out; omega
 have hn1 : ((n1 : Nat) : Int) - 1 = (n : Nat) := by have := HN1.out; omega
 have hm4 : m ≤ 4104 := by omega
 have hq4 : 16 ≤ q8 ∧ q8 ≤ 4096 := by have := HQ8.out; omega
 have hm8 : 8 ≤ m := by omega
 have hqm : m - 8 = q8 := by have := HM.out; omega
 have hw := hr.wiped
 have hlt0 : ¬ ((m : Nat) : Int) < 24 := by omega
 have hmm : ((m : Nat) : Int) % 8 = 0 := by omega
 have hgt : ¬ (4104 : Int) < (m : Nat) := by omega
 clear hr hnk hK hb hp hf h8
 have HA0 : Hid (Below w.heap.size w (w.alloc (.cells #[.int .u8 0, .int .u8 0, .int .u8 0, .int .u8 0, .int .u8 0, .int .u8 0, .int .u8 0, .int .u8 0] 114)) ∧ Ab (w.alloc (.cells #[.int .u8 0, .int .u8 0, .int .u8 0, .int .u8 0, .int .u8 0, .int .u8 0, .int .u8 0, .int .u8 0] 114)) w.heap.size 8 zero8 ∧ w.heap.size < (w.alloc (.cells #[.int .u8 0, .int .u8 0, .int .u8 0, .int .u8 0, .int .u8 0, .int .u8 0, .int .u8 0, .int .u8 0] 114)).heap.size) := by
  refine ⟨(Below.refl _ w).alloc (Nat.le_refl _) _, ?_, by simp⟩
  rw [z8_ab]
  exact ab_new w 8 _ 114
 obtain ⟨ba, HBA⟩ : ∃ ba, Hid (w.heap.size = ba) := ⟨_, rfl⟩
 go_enter Tryz.func29, Tryz.ntmps29
 go_upto_region 11 with fail
 generalize (w.alloc (.cells #[.int .u8 0, .int .u8 0, .int .u8 0, .int .u8 0, .int .u8 0, .int .u8 0, .int .u8 0, .int .u8 0] 114)) = w1 at HA0 ⊢
 rw [HBA.out] at HA0 ⊢
 clear hw hlt0 hmm hgt hmd hn1
 go_wp2
 go_loopw [8] (fun vi wr => ∃ x : Nat, x ≤ 8 ∧ vi = .int .i64 (x : Nat) ∧ Hid (Below ba w wr ∧ Ab wr ba 8 (fun q => if q < x then f q else 0) ∧ ba < wr.heap.size)) (fun v _ => 8 - (intOf v).toNat)
 case atStart => exact ⟨0, by omega, rfl, HA0.out.1, HA0.out.2.1.congr (fun q hq => by rw [if_neg (by omega)]; rfl), HA0.out.2.2⟩
 case round =>
  obtain ⟨x, hx, rfl, H1⟩ := hrel
  clear HA0
  by_cases hlx : x < 8
  ·have hxi : ((x : Nat) : Int) < 8 := by omega
   have hxm : ((x : Nat) : Int) < (m : Nat) := by omega
   obtain ⟨a1, HA1⟩ : ∃ t, Hid (t = f x) := ⟨_, rfl⟩
   have ca : wr.cell? ⟨b, po + x, none⟩ = some (.int .u8 (a1 : Nat)) := by
    rw [H1.out.1.cell (p := ⟨b, po + x, none⟩) (by rw [← HBA.out]; exact HP.out.1), HP.out.2.1 x (by omega), HA1.out]
   have cb : wr.cell? ⟨ba, x, none⟩ = some (.int .u8 0) := by rw [H1.out.2.1.c x hlx, if_neg (by omega)]; rfl
   have zb : wr.frozen? ⟨ba, x, none⟩ = false := by have := (H1.out.2.1.t x hlx).2; simpa using this
   go_wp2
   refine ⟨⟨x + 1, by omega, by go_num, ?_⟩, by simp only [intOf]; omega⟩
   obtain ⟨e1, e2, e3⟩ := H1.out
   refine ⟨e1.setCell (Nat.le_refl _) _, (e2.set x a1 hlx).congr (fun q hq => ?_), by simpa [World.setCell] using e3⟩
   by_cases e : q = x
   ·subst e; rw [if_pos rfl, if_pos (by omega), HA1.out]
   ·rw [if_neg e]
    by_cases e2 : q < x
    ·rw [if_pos e2, if_pos (by omega)]
    ·rw [if_neg e2, if_neg (by omega)]
  ·obtain rfl : x = 8 := by omega
   have H1' : Hid (Below ba w wr ∧ Ab wr ba 8 (byteK (numK f 8)) ∧ ba < wr.heap.size) := ⟨H1.out.1, H1.out.2.1.congr (fun q hq => by rw [if_pos hq]; exact (byteK_numK f HP.out.2.2 q hq).symm), H1.out.2.2⟩
   clear H1 hx hlx
   have hnews : ∀ j u, (abL q8 (fun i => f (8 + i)))[j]? = some u → wr.cell? ((⟨b, po + 8, none⟩ : Addr).add j) = some u := fun j u hu => by
    have hj : j < q8 := by have := (List.getElem?_eq_some_iff.1 hu).1; rwa [abL_len] at this
    rw [abL_at _ _ _ hj] at hu
    rw [Addr.add_mid, H1'.out.1.cell (p := ⟨b, po + 8 + j, none⟩) (by rw [← HBA.out]; exact HP.out.1), Nat.add_assoc, HP.out.2.1 (8 + j) (by have := HM.out; omega)]
    exact hu
   go_upto_region 17 with (at_builtin; refine wpList_append_grows _ rfl _ _ 22 rfl 5 i0 (.int .u8 0) 1 1 Tryz.underlying22 hi hz0 hz1 hz2 rfl (by decide) none 0 0 [] rfl (fun _ => ⟨rfl, rfl⟩) rfl (fun b hb => by cases hb) ⟨b, po + 8, none⟩ q8 c8 (abL q8 (fun i => f (8 + i))) rfl (by rw [abL_len]; omega) hnews (abL_one _ _) (by omega) (by unfold maxLen; omega) (by omega) ?_; intro v1 w2 hown1 hgrow1)
   rw [Nat.zero_add, List.nil_append] at hown1
   obtain ⟨br, c1, rfl, hbr, hbr2, hc1, hc2, hab⟩ := own_ab hown1 (by omega)
   have HB2 : Hid (Below wr.heap.size wr w2) := (Below.refl _ _).grown hgrow1 (Nat.le_refl _) (by intro k hk; cases hk)
   have HW0 : Hid (WS w w2 ba br n (un0 f)) := by
    refine ⟨?_, ?_, ?_, ?_⟩
    ·rw [HBA.out]; exact H1'.out.1.trans (HB2.out.mono (Nat.le_of_lt H1'.out.2.2))
    ·exact H1'.out.2.1.same (HB2.out.block _ H1'.out.2.2)
    ·rw [← HQ8.out]; exact hab.congr (fun j hj => (flt_halfs (f := fun i => f (8 + i)) (fun i => HP.out.2.2 _) j).symm)
    ·have := H1'.out.2.2; have := HBA.out; omega
   have HCC : Hid (q8 ≤ c1 ∧ c1 ≤ maxLen) := ⟨hc1, hc2⟩
   clear hown1 hgrow1 hab H1' HB2 hnews hbr hbr2 hc1 hc2
   go_wp2
   go_loopw [10] (fun vj wr => ∃ (j : Nat) (X : Nat × (Nat → Nat)), j ≤ 6 ∧ vj = .int .i64 ((j : Int) - 1) ∧ Hid (WS w wr ba br n X ∧ Rok X ∧ aft (unStep (nk + 6) K n) (n * j) X = F)) (fun v _ => (intOf v + 1).toNat)
   case atStart => exact ⟨6, un0 f, by omega, rfl, HW0.out, un0_ok HP.out.2.2, by rw [Nat.mul_comm]; exact HF.out⟩
   case round =>
    obtain ⟨j, X, hj, rfl, HW⟩ := hrel
    clear HW0
    cases j with
    | zero =>
     have HX : Hid (X = F) := by have := HW.out.2.2; rw [Nat.mul_zero] at this; exact this
     have H1 : Hid (WS w wr ba br n F ∧ F.1 < 18446744073709551616) := by rw [← HX.out]; exact ⟨HW.out.1, HW.out.2.1.1⟩
     clear HW HX hj
     go_wp2
     go_loopw [16] (fun vi wq => ∃ x : Nat, x ≤ 8 ∧ vi = .int .i64 (x : Nat) ∧ Hid (WS w wq ba br n F ∧ ∀ y, y < x → byteK F.1 y = 166)) (fun v _ => 8 - (intOf v).toNat)
     case atStart => exact ⟨0, by omega, rfl, H1.out.1, fun y hy => by omega⟩
     case round =>
      obtain ⟨x, hx, rfl, H2⟩ := hrel
      rename World => wq
      by_cases hlx : x < 8
      ·have hxi : ((x : Nat) : Int) < 8 := by omega
       obtain ⟨a1, HA1⟩ : ∃ t, Hid (t = byteK F.1 x) := ⟨_, rfl⟩
       have ca : wq.cell? ⟨ba, x, none⟩ = some (.int .u8 (a1 : Nat)) := by rw [HA1.out]; exact H2.out.1.a.c x hlx
       by_cases he : a1 = 166
       ·have hne : (((a1 : Nat) : Int) != 166) = false := by simp; omega
        have HE : Hid (a1 = 166) := he
        clear he
        go_wp2
        refine ⟨⟨x + 1, by omega, by go_num, H2.out.1, fun y hy => ?_⟩, by simp only [intOf]; omega⟩
        by_cases e : y = x
        ·subst e; rw [← HA1.out]; exact HE.out
        ·exact H2.out.2 y (by omega)
       ·have hne : (((a1 : Nat) : Int) != 166) = true := by simp; omega
        have HE : Hid (a1 ≠ 166) := he
        clear he
        go_wp2
        go_ret2
        refine ⟨H2.out.1.old, .inr ⟨fun e => HE.out ?_, rfl⟩⟩
        rw [HA1.out, e]
        exact mark_byte x hlx
      ·obtain rfl : x = 8 := by omega
       go_wp2
       go_ret2
       refine ⟨H2.out.1.old, .inl ⟨mark_of H1.out.2 H2.out.2, br, c1, rfl, by have := H2.out.1.lt; omega, HCC.out.1, HCC.out.2, ?_⟩⟩
       have h := H2.out.1.r
       rw [← HQ8.out] at h
       exact h
    | succ j =>
     have hj1 : (((j + 1 : Nat) : Int) - 1) = (j : Nat) := by omega
     rw [hj1]
     clear hj1
     have hwn : IntKind.i64.wrap (((n : Nat) : Int) - 1) = ((n : Nat) : Int) - 1 := wraps_i64 _ (by omega) (by omega)
     go_wp2
     clear hwn
     go_loopw [11] (fun vi wr => ∃ (i : Nat) (X : Nat × (Nat → Nat)), i ≤ n ∧ vi = .int .i64 ((i : Int) - 1) ∧ Hid (WS w wr ba br n X ∧ Rok X ∧ aft (unStep (nk + 6) K n) (n * j + i) X = F)) (fun v _ => (intOf v + 1).toNat)
     case atStart => exact ⟨n, X, by omega, rfl, HW.out.1, HW.out.2.1, by have := HW.out.2.2; rw [Nat.mul_add, Nat.mul_one] at this; exact this⟩
     case round =>
      obtain ⟨i, X, hin, rfl, HV⟩ := hrel
      clear HW
      cases i with
      | zero =>
       go_wp2
       refine ⟨⟨j, X, by omega, rfl, HV⟩, by simp only [intOf]; omega⟩
      | succ i =>
       have hi1 : (((i + 1 : Nat) : Int) - 1) = (i : Nat) := by omega
       rw [hi1]
       clear hi1
       obtain ⟨k, HKN⟩ : ∃ k, Hid (k = n * j + i) := ⟨_, rfl⟩
       have hk3 : k < 3072 := by
        have e1 := HKN.out
        have e2 : n * j ≤ n * 5 := Nat.mul_le_mul_left _ (by omega)
        omega
       have HVF : Hid (aft (unStep (nk + 6) K n) k (unStep (nk + 6) K n k X) = F) := by
        have h := HV.out.2.2
        rw [← Nat.add_assoc, ← HKN.out, aft_succ] at h
        exact h
       have HXo : Hid (Rok X) := HV.out.2.1
       have HV1 : Hid (WS w wr ba br n X) := HV.out.1
       clear HV
       obtain ⟨nj, HNJ⟩ : ∃ t, Hid (t = n * j) := ⟨_, rfl⟩
       obtain ⟨k1, HK1⟩ : ∃ t, Hid (t = k + 1) := ⟨_, rfl⟩
       have hnj : ((n : Nat) : Int) * ((j : Nat) : Int) = ((nj : Nat) : Int) := by rw [HNJ.out]; exact (Int.natCast_mul n j).symm
       have hk : ((nj : Nat) : Int) + ((i : Nat) : Int) = ((k : Nat) : Int) := by have := HNJ.out; have := HKN.out; omega
       have hnk3 : nj ≤ k := by have := HNJ.out; have := HKN.out; omega
       have hwnj : IntKind.i64.wrap ((nj : Nat) : Int) = ((nj : Nat) : Int) := wraps_i64 _ (by omega) (by omega)
       have hwk : IntKind.i64.wrap ((k : Nat) : Int) = ((k : Nat) : Int) := wraps_i64 _ (by omega) (by omega)
       obtain ⟨TL, HTL⟩ : ∃ L, Hid (L = abL 8 (byteK k1)) := ⟨_, rfl⟩
       have HTA8 : Hid (A8 TL) := by show A8 _; rw [HTL.out]; exact a8 _
       have HC59 : Hid (Calls Tryz.prog 59 #[.int .u64 ((k : Int) + 1)] wr fun e u' => e = .returned (.agg TL.toArray) ∧ Below wr.heap.size wr u') := by
        show Calls _ _ _ _ _
        rw [HTL.out, HK1.out, show ((k : Int) + 1) = ((k + 1 : Nat) : Int) by omega]
        exact rnumber_ok (k + 1) wr (by omega)
       go_wp2_with (first | (go_at_call 59; refine HC59.out.mono ?_))
       rintro e7 w7 ⟨rfl, hb7⟩
       have H7 : Hid (WS w w7 ba br n X) := HV1.out.below hb7
       have HT7 : Hid ((w7.alloc (.cells #[.int .u8 0, .int .u8 0, .int .u8 0, .int .u8 0, .int .u8 0, .int .u8 0, .int .u8 0, .int .u8 0] 114)).there w7.heap.size 0 TL.toArray.size) := HTA8.out.there (there_new w7 _ 114 8 (by show 8 ≤ 8; omega))
       clear hb7 HC59 HV1 hnj hk hwnj hwk
       go_upto_region 24 with (refine wpList_store_mid (by rfl) 114 (.tmp 12) (.tmp 70) (by rfl) w7.heap.size 0 TL.toArray (by rfl) (by rfl) HT7.out HTA8.out.sza HTA8.out.one ?_)
       try rw [List.toList_toArray]
       obtain ⟨bt, HBT⟩ : ∃ bt, Hid (w7.heap.size = bt) := ⟨_, rfl⟩
       have H8 : Hid (WS w ((w7.alloc (.cells #[.int .u8 0, .int .u8 0, .int .u8 0, .int .u8 0, .int .u8 0, .int .u8 0, .int .u8 0, .int .u8 0] 114)).setCells w7.heap.size 0 TL) ba br n X ∧ Ab ((w7.alloc (.cells #[.int .u8 0, .int .u8 0, .int .u8 0, .int .u8 0, .int .u8 0, .int .u8 0, .int .u8 0, .int .u8 0] 114)).setCells w7.heap.size 0 TL) w7.heap.size 8 (byteK k1) ∧ br < w7.heap.size ∧ w7.heap.size < ((w7.alloc (.cells #[.int .u8 0, .int .u8 0, .int .u8 0, .int .u8 0, .int .u8 0, .int .u8 0, .int .u8 0, .int .u8 0] 114)).setCells w7.heap.size 0 TL).heap.size) := by
        have e1 := H7.out
        have hl := e1.lt
        have hb : Below w7.heap.size w7 (w7.alloc (.cells #[.int .u8 0, .int .u8 0, .int .u8 0, .int .u8 0, .int .u8 0, .int .u8 0, .int .u8 0, .int .u8 0] 114)) := (Below.refl _ _).alloc (Nat.le_refl _) _
        have f1 := e1.below hb
        refine ⟨⟨belowB_setCells _ (by omega) _ _ _ f1.old, f1.a.stores _ (by omega), f1.r.stores _ (by omega), by rw [sizeB_setCells]; exact f1.lt⟩, ?_, hl.2.2, by rw [sizeB_setCells]; simp⟩
        rw [HTL.out]
        exact ab_store _ (there_new w7 _ 114 8 (by show 8 ≤ 8; omega))
       generalize ((w7.alloc (.cells #[.int .u8 0, .int .u8 0, .int .u8 0, .int .u8 0, .int .u8 0, .int .u8 0, .int .u8 0, .int .u8 0] 114)).setCells w7.heap.size 0 TL) = w8 at H8 ⊢
       rw [HBT.out] at H8 ⊢
       clear H7 HT7
       have hk1 : k1 < 18446744073709551616 := by have := HK1.out; omega
       obtain ⟨bb, HBB⟩ : ∃ bb, Hid (w8.heap.size = bb) := ⟨_, rfl⟩
       have H3 : Hid (WS w (w8.alloc (.cells #[.int .u8 0, .int .u8 0, .int .u8 0, .int .u8 0, .int .u8 0, .int .u8 0, .int .u8 0, .int .u8 0, .int .u8 0, .int .u8 0, .int .u8 0, .int .u8 0, .int .u8 0, .int .u8 0, .int .u8 0, .int .u8 0] 37)) ba br n X ∧ Ab (w8.alloc (.cells #[.int .u8 0, .int .u8 0, .int .u8 0, .int .u8 0, .int .u8 0, .int .u8 0, .int .u8 0, .int .u8 0, .int .u8 0, .int .u8 0, .int .u8 0, .int .u8 0, .int .u8 0, .int .u8 0, .int .u8 0, .int .u8 0] 37)) w8.heap.size 16 zero8 ∧ Ab (w8.alloc (.cells #[.int .u8 0, .int .u8 0, .int .u8 0, .int .u8 0, .int .u8 0, .int .u8 0, .int .u8 0, .int .u8 0, .int .u8 0, .int .u8 0, .int .u8 0, .int .u8 0, .int .u8 0, .int .u8 0, .int .u8 0, .int .u8 0] 37)) bt 8 (byteK k1) ∧ w8.heap.size < (w8.alloc (.cells #[.int .u8 0, .int .u8 0, .int .u8 0, .int .u8 0, .int .u8 0, .int .u8 0, .int .u8 0, .int .u8 0, .int .u8 0, .int .u8 0, .int .u8 0, .int .u8 0, .int .u8 0, .int .u8 0, .int .u8 0, .int .u8 0] 37)).heap.size ∧ br < bt ∧ bt < w8.heap.size) := by
        have hb : Below w8.heap.size w8 (w8.alloc (.cells #[.int .u8 0, .int .u8 0, .int .u8 0, .int .u8 0, .int .u8 0, .int .u8 0, .int .u8 0, .int .u8 0, .int .u8 0, .int .u8 0, .int .u8 0, .int .u8 0, .int .u8 0, .int .u8 0, .int .u8 0, .int .u8 0] 37)) := (Below.refl _ _).alloc (Nat.le_refl _) _
        refine ⟨H8.out.1.below hb, ?_, H8.out.2.1.same (hb.block _ H8.out.2.2.2), by simp, H8.out.2.2⟩
        rw [z16_ab]
        exact ab_new w8 16 zero8 37
       clear H8
       go_upto_region 25 with fail
       generalize (w8.alloc (.cells #[.int .u8 0, .int .u8 0, .int .u8 0, .int .u8 0, .int .u8 0, .int .u8 0, .int .u8 0, .int .u8 0, .int .u8 0, .int .u8 0, .int .u8 0, .int .u8 0, .int .u8 0, .int .u8 0, .int .u8 0, .int .u8 0] 37)) = w3 at H3 ⊢
       rw [HBB.out] at H3 ⊢
       obtain ⟨i8, HI8⟩ : ∃ t, Hid (t = 8 * i) := ⟨_, rfl⟩
       have hi8 : (8 : Int) * ((i : Nat) : Int) = ((i8 : Nat) : Int) := by have := HI8.out; omega
       have hi8n : i8 + 8 ≤ q8 := by have := HI8.out; have := HQ8.out; omega
       have hwi8 : IntKind.i64.wrap ((i8 : Nat) : Int) = ((i8 : Nat) : Int) := wraps_i64 _ (by omega) (by omega)
       have hAk : X.1 ^^^ k1 < 18446744073709551616 := Nat.xor_lt_two_pow (n := 64) HXo.out.1 hk1
       go_wp2
       go_loopw [14] (fun vx w4 => ∃ x : Nat, x ≤ 8 ∧ vx = .int .i64 (x : Nat) ∧ Hid (WS w w4 ba br n X ∧ Ab w4 bb 16 (hlf (X.1 ^^^ k1) (X.2 i) x) ∧ Ab w4 bt 8 (byteK k1) ∧ br < bt ∧ bt < bb ∧ bb < w4.heap.size)) (fun v _ => 8 - (intOf v).toNat)
       case atStart => exact ⟨0, by omega, rfl, H3.out.1, H3.out.2.1.congr (fun q hq => by unfold hlf zero8; simp), H3.out.2.2.1, H3.out.2.2.2.2.1, H3.out.2.2.2.2.2, H3.out.2.2.2.1⟩
       case round =>
        obtain ⟨x, hx, rfl, H4⟩ := hrel
        clear H3
        rename World => w4
        by_cases hlx : x < 8
        ·have hxi : ((x : Nat) : Int) < 8 := by omega
         have hxi16 : ((x : Nat) : Int) < 16 := by omega
         obtain ⟨a1, HA1⟩ : ∃ t, Hid (t = byteK X.1 x) := ⟨_, rfl⟩
         obtain ⟨t1, HT1⟩ : ∃ t, Hid (t = byteK k1 x) := ⟨_, rfl⟩
         obtain ⟨z1, HZ1⟩ : ∃ t, Hid (t = Nat.xor a1 t1) := ⟨_, rfl⟩
         obtain ⟨r1, HR1⟩ : ∃ t, Hid (t = byteK (X.2 i) x) := ⟨_, rfl⟩
         obtain ⟨v0, HV0⟩ : ∃ t, Hid (t = hlf (X.1 ^^^ k1) (X.2 i) x x) := ⟨_, rfl⟩
         have hxor : bits .xor .u8 ((a1 : Nat) : Int) ((t1 : Nat) : Int) = ((z1 : Nat) : Int) := by
          rw [HZ1.out]
          exact xor8 a1 t1 (by rw [HA1.out]; exact byteK_lt _ _) (by rw [HT1.out]; exact byteK_lt _ _)
         have hSt : w4.drew.cell? ⟨ba, x, none⟩ = some (.int .u8 (a1 : Nat)) ∧ w4.drew.cell? ⟨bt, x, none⟩ = some (.int .u8 (t1 : Nat)) := ⟨by rw [HA1.out]; exact H4.out.1.a.c x hlx, by rw [HT1.out]; exact H4.out.2.2.1.c x hlx⟩
         have hca : w4.cell? ⟨bb, x, none⟩ = some (.int .u8 (v0 : Nat)) := by rw [HV0.out]; exact H4.out.2.1.c x (by omega)
         have hza : w4.frozen? ⟨bb, x, none⟩ = false := by have := (H4.out.2.1.t x (by omega)).2; simpa using this
         go_upto_region 28 with fail
         refine wp_region_noPanic ?_
         refine wp_region_till (fun u => u.cell? ⟨ba, x, none⟩ = some (.int .u8 (a1 : Nat)) ∧ u.cell? ⟨bt, x, none⟩ = some (.int .u8 (t1 : Nat))) 8 (by kernel_rfl) (by decide) (by decide +kernel) (by decide +kernel) (by decide +kernel) (fun inv => ?_)
         refine tU 0 75 (.int .i64 (x : Nat)) inv rfl rfl hSt fun inv => ?_
         simp only [pU]
         refine tU 1 76 (.int .i64 (x : Nat)) inv rfl rfl hSt fun inv => ?_
         simp only [pU]
         refine tU 2 77 (.pointer (some ⟨ba, x, none⟩)) inv rfl rfl hSt fun inv => ?_
         simp only [pU]
         refine tT 3 78 (.int .u8 (a1 : Nat)) inv rfl rfl (by decide +kernel) (hSt) (Or.inl ⟨by rfl, fun w' hS' => by have q1 := hS'.1; go_simp⟩) (fun inv => ?_)
         simp only [pU]
         refine tU 4 79 (.int .i64 (x : Nat)) inv rfl rfl hSt fun inv => ?_
         simp only [pU]
         refine tU 5 80 (.pointer (some ⟨bt, x, none⟩)) inv rfl rfl hSt fun inv => ?_
         simp only [pU]
         refine tT 6 81 (.int .u8 (t1 : Nat)) inv rfl rfl (by decide +kernel) (hSt) (Or.inl ⟨by rfl, fun w' hS' => by have q1 := hS'.2; go_simp⟩) (fun inv => ?_)
         simp only [pU]
         refine tU 7 82 (.int .u8 (z1 : Nat)) inv rfl rfl hSt fun inv => ?_
         simp only [pU]
         refine till_tail (i := 8) (by decide +kernel) (by decide) rfl (fun Kx hK => ?_)
         rw [if_pos (by kernel_rfl)]
         go_simp
         refine hK.out _ _ ?_
         clear hK Kx
         try simp only [Act.put, pU]
         refine till_tail (i := 9) (by decide +kernel) (by decide) rfl (fun Kx hK => ?_)
         rw [if_pos (by kernel_rfl)]
         have q1 : w4.drew.cell? ⟨bb, x, none⟩ = some (.int .u8 (v0 : Nat)) := hca
         have q2 : w4.drew.frozen? ⟨bb, x, none⟩ = false := hza
         go_simp
         refine hK.out _ _ ?_
         clear hK Kx
         refine till_done (by decide +kernel) ?_ _
         refine NoPanic.normal ?_
         clear q1 q2 hSt hca hza
         have H5 : Hid (WS w ((w4.setCell ⟨bb, x, none⟩ (.int .u8 (z1 : Nat))).drew) ba br n X ∧ Ab ((w4.setCell ⟨bb, x, none⟩ (.int .u8 (z1 : Nat))).drew) bb 16 (fun q => if q = x then byteK (X.1 ^^^ k1) x else hlf (X.1 ^^^ k1) (X.2 i) x q) ∧ Ab ((w4.setCell ⟨bb, x, none⟩ (.int .u8 (z1 : Nat))).drew) bt 8 (byteK k1) ∧ br < bt ∧ bt < bb ∧ bb < ((w4.setCell ⟨bb, x, none⟩ (.int .u8 (z1 : Nat))).drew).heap.size) := by
          obtain ⟨e1, e2, e3, e4, e5, e6⟩ := H4.out
          have hl := e1.lt
          have hz : z1 = byteK (X.1 ^^^ k1) x := by rw [HZ1.out, HA1.out, HT1.out, byteK_xor]
          have s1 := e2.set x z1 (by omega)
          have s2 := e1.a.far (b' := bb) (o := x) (v := .int .u8 (z1 : Nat)) (by omega)
          have s3 := e1.r.far (b' := bb) (o := x) (v := .int .u8 (z1 : Nat)) (by omega)
          have s4 := e3.far (b' := bb) (o := x) (v := .int .u8 (z1 : Nat)) (by omega)
          have s1' : Ab ((w4.setCell ⟨bb, x, none⟩ (.int .u8 (z1 : Nat))).drew) bb 16 (fun j => if j = x then z1 else hlf (X.1 ^^^ k1) (X.2 i) x j) := ⟨s1.c, s1.t⟩
          refine ⟨⟨(e1.old.setCell (by show w.heap.size ≤ bb; omega) _).drew, ⟨s2.c, s2.t⟩, ⟨s3.c, s3.t⟩, by simpa [World.setCell] using hl⟩, s1'.congr (fun q hq => by rw [hz]), ⟨s4.c, s4.t⟩, e4, e5, by simpa [World.setCell] using e6⟩
         generalize (w4.setCell ⟨bb, x, none⟩ (.int .u8 (z1 : Nat))).drew = w5 at H5 ⊢
         clear H4
         obtain ⟨x8, HX8⟩ : ∃ t, Hid (t = 8 + x) := ⟨_, rfl⟩
         obtain ⟨p, HPP⟩ : ∃ t, Hid (t = i8 + x) := ⟨_, rfl⟩
         have hx8 : (8 : Int) + ((x : Nat) : Int) = ((x8 : Nat) : Int) := by have := HX8.out; omega
         have hx16 : ((x8 : Nat) : Int) < 16 := by have := HX8.out; omega
         have hwx8 : IntKind.i64.wrap ((x8 : Nat) : Int) = ((x8 : Nat) : Int) := wraps_i64 _ (by omega) (by omega)
         have hpp : ((i8 : Nat) : Int) + ((x : Nat) : Int) = ((p : Nat) : Int) := by have := HPP.out; omega
         have hpq : ((p : Nat) : Int) < (q8 : Nat) := by have := HPP.out; omega
         have hwp : IntKind.i64.wrap ((p : Nat) : Int) = ((p : Nat) : Int) := wraps_i64 _ (by omega) (by omega)
         have ca : w5.cell? ⟨br, p, none⟩ = some (.int .u8 (r1 : Nat)) := by
          rw [H5.out.1.r.c p (by have := HQ8.out; omega), HR1.out, flt]
          rw [show p / 8 = i by have := HPP.out; have := HI8.out; omega, show p % 8 = x by have := HPP.out; have := HI8.out; omega]
         obtain ⟨v1, HV1⟩ : ∃ t, Hid (t = (if x8 = x then byteK (X.1 ^^^ k1) x else hlf (X.1 ^^^ k1) (X.2 i) x x8)) := ⟨_, rfl⟩
         have cb : w5.cell? ⟨bb, x8, none⟩ = some (.int .u8 (v1 : Nat)) := by rw [HV1.out]; exact H5.out.2.1.c x8 (by omega)
         have zb : w5.frozen? ⟨bb, x8, none⟩ = false := by have := (H5.out.2.1.t x8 (by omega)).2; simpa using this
         go_wp2
         refine ⟨⟨x + 1, by omega, by go_num, ?_⟩, by simp only [intOf]; omega⟩
         obtain ⟨e1, e2, e3, e4, e5, e6⟩ := H5.out
         have hl := e1.lt
         refine ⟨⟨e1.old.setCell (by show w.heap.size ≤ bb; omega) _, e1.a.far (by omega), e1.r.far (by omega), by simpa [World.setCell] using hl⟩, ?_, e3.far (by omega), e4, e5, by simpa [World.setCell] using e6⟩
         refine (e2.set x8 r1 (by omega)).congr (fun q hq => ?_)
         rw [HR1.out, HX8.out]
         exact hlf_next (X.1 ^^^ k1) (X.2 i) x q hlx
        ·obtain rfl : x = 8 := by omega
         obtain ⟨e1, e2, _, e3', e3'', e4⟩ := H4.out
         have e3 : br < bb := by omega
         obtain ⟨yy, HYY⟩ : ∃ y, Hid (y = dcW (nk + 6) K (joinW (X.1 ^^^ k1) (X.2 i))) := ⟨_, rfl⟩
         have HYO : Hid yy.ok := by show W4.ok _; rw [HYY.out]; exact dcW_ok HKK.out.2 _ _
         obtain ⟨BL, HBL⟩ : ∃ L, Hid (L = abL 16 (sb (joinW (X.1 ^^^ k1) (X.2 i)))) := ⟨_, rfl⟩
         obtain ⟨EL, HEL⟩ : ∃ L, Hid (L = abL 16 (sb yy)) := ⟨_, rfl⟩
         have HBA16 : Hid (A16 BL) := by show A16 _; rw [HBL.out, abL_16]; exact a16 _
         have HEA16 : Hid (A16 EL) := by show A16 _; rw [HEL.out, abL_16]; exact a16 _
         have HB4 : Hid (w4.rangeAt bb 0 BL) := by
          show World.rangeAt _ _ _ _
          rw [HBL.out]
          exact (e2.congr (fun q hq => hlf_all _ _ hAk (HXo.out.2 i) q hq)).range
         have HC23 : Hid (Calls Tryz.prog 24 #[.pointer (some ⟨g, 0, none⟩), .agg BL.toArray] w4 fun e u' => e = .returned (.agg EL.toArray) ∧ Below w4.heap.size w4 u') := by
          show Calls _ _ _ _ _
          rw [HBL.out, HEL.out, abL_16, abL_16, arL_array, arL_array, HYY.out]
          exact rdec_ok g gr nk K _ w4 (HR.out.below e1.old) HKK.out.1 HKK.out.2 (joinW_ok hAk (HXo.out.2 i))
         have H4' : Hid (WS w w4 ba br n X ∧ Ab w4 bb 16 (hlf (X.1 ^^^ k1) (X.2 i) 8) ∧ br < bb ∧ bb < w4.heap.size) := ⟨e1, e2, e3, e4⟩
         clear H4 e1 e2 e3 e4 hx hlx e3' e3''
         go_wp2_with (first
          | (refine wpList_load_mid (by rfl) 37 (.tmp 13) (by rfl) bb 0 (by rfl) BL _ HB4.out Tryz.underlying37 rfl HBA16.out.sz ?_)
          | (go_at_call 24; refine HC23.out.mono ?_))
         rintro e5 w5 ⟨rfl, hb5⟩
         have H5 : Hid (WS w w5 ba br n X ∧ Ab w5 bb 16 (hlf (X.1 ^^^ k1) (X.2 i) 8) ∧ br < bb ∧ bb < w5.heap.size) := ⟨H4'.out.1.below hb5, H4'.out.2.1.same (hb5.block _ H4'.out.2.2.2), H4'.out.2.2.1, Nat.lt_of_lt_of_le H4'.out.2.2.2 hb5.size⟩
         have HT5 : Hid (w5.there bb 0 EL.toArray.size) := HEA16.out.there H5.out.2.1.t
         clear hb5 HB4 HC23 H4'
         go_upto_region 31 with (refine wpList_store_mid (by rfl) 37 (.tmp 13) (.tmp 96) (by rfl) bb 0 EL.toArray (by rfl) (by rfl) HT5.out HEA16.out.sza HEA16.out.one ?_)
         try rw [List.toList_toArray]
         have H6 : Hid (UT w (w5.setCells bb 0 EL) ba br bb n i 0 X yy) := by
          obtain ⟨e1, e2, e3, e4⟩ := H5.out
          have hl := e1.lt
          refine ⟨belowB_setCells _ (by omega) _ _ _ e1.old, (e1.a.stores _ (by omega)).congr (fun q hq => by rw [if_neg (by omega)]), (e1.r.stores _ (by omega)).congr (fun q hq => by rw [if_neg (by omega)]), ?_, by rw [sizeB_setCells]; omega⟩
          rw [HEL.out]
          exact ab_store _ e2.t
         generalize (w5.setCells bb 0 EL) = w6 at H6 ⊢
         clear H5 HT5
         go_wp2
         go_loopw [15] (fun vx w9 => ∃ x : Nat, x ≤ 8 ∧ vx = .int .i64 (x : Nat) ∧ Hid (UT w w9 ba br bb n i x X yy)) (fun v _ => 8 - (intOf v).toNat)
         case atStart => exact ⟨0, by omega, rfl, H6⟩
         case round =>
          obtain ⟨x, hx, rfl, H9⟩ := hrel
          clear H6
          rename World => w9
          by_cases hlx : x < 8
          ·have hxi : ((x : Nat) : Int) < 8 := by omega
           have hxi16 : ((x : Nat) : Int) < 16 := by omega
           obtain ⟨y1, HY1⟩ : ∃ t, Hid (t = sb yy x) := ⟨_, rfl⟩
           obtain ⟨a1, HA1⟩ : ∃ t, Hid (t = byteK X.1 x) := ⟨_, rfl⟩
           obtain ⟨l1, HL1⟩ : ∃ t, Hid (t = sb yy (8 + x)) := ⟨_, rfl⟩
           have ca : w9.cell? ⟨bb, x, none⟩ = some (.int .u8 (y1 : Nat)) := by rw [HY1.out]; exact H9.out.b.c x (by omega)
           have cb : w9.cell? ⟨ba, x, none⟩ = some (.int .u8 (a1 : Nat)) := by rw [H9.out.a.c x hlx, if_neg (by omega), HA1.out]
           have zb : w9.frozen? ⟨ba, x, none⟩ = false := by have := (H9.out.a.t x hlx).2; simpa using this
           have H10 : Hid (UT w w9 ba br bb n i x X yy ∧ Below w.heap.size w (w9.setCell ⟨ba, x, none⟩ (.int .u8 (y1 : Nat))) ∧ Ab (w9.setCell ⟨ba, x, none⟩ (.int .u8 (y1 : Nat))) ba 8 (fun q => if q < x + 1 then byteK yy.hi q else byteK X.1 q) ∧ Ab (w9.setCell ⟨ba, x, none⟩ (.int .u8 (y1 : Nat))) br (8 * n) (fun q => if 8 * i ≤ q ∧ q < 8 * i + x then byteK yy.lo (q - 8 * i) else flt X.2 q) ∧ Ab (w9.setCell ⟨ba, x, none⟩ (.int .u8 (y1 : Nat))) bb 16 (sb yy) ∧ bb < (w9.setCell ⟨ba, x, none⟩ (.int .u8 (y1 : Nat))).heap.size) := by
            have e := H9.out
            have hl := e.lt
            have hz : y1 = byteK yy.hi x := by rw [HY1.out, sb_hi HYO.out x hlx]
            refine ⟨e, e.old.setCell (by show w.heap.size ≤ ba; omega) _, (e.a.set x y1 hlx).congr (fun q hq => ?_), e.r.far (by omega), e.b.far (by omega), by simpa [World.setCell] using hl.2.2.2⟩
            by_cases e1 : q = x
            ·subst e1; rw [if_pos rfl, if_pos (by omega), hz]
            ·rw [if_neg e1]
             by_cases e2 : q < x
             ·rw [if_pos e2, if_pos (by omega)]
             ·rw [if_neg e2, if_neg (by omega)]
           go_upto_region 35 with fail
           generalize (w9.setCell ⟨ba, x, none⟩ (.int .u8 (y1 : Nat))) = w10 at H10 ⊢
           clear H9 ca cb zb
           obtain ⟨x8, HX8⟩ : ∃ t, Hid (t = 8 + x) := ⟨_, rfl⟩
           obtain ⟨p, HPP⟩ : ∃ t, Hid (t = i8 + x) := ⟨_, rfl⟩
           have hx8 : (8 : Int) + ((x : Nat) : Int) = ((x8 : Nat) : Int) := by have := HX8.out; omega
           have hx16 : ((x8 : Nat) : Int) < 16 := by have := HX8.out; omega
           have hwx8 : IntKind.i64.wrap ((x8 : Nat) : Int) = ((x8 : Nat) : Int) := wraps_i64 _ (by omega) (by omega)
           have hpp : ((i8 : Nat) : Int) + ((x : Nat) : Int) = ((p : Nat) : Int) := by have := HPP.out; omega
           have hpq : ((p : Nat) : Int) < (q8 : Nat) := by have := HPP.out; omega
           have hwp : IntKind.i64.wrap ((p : Nat) : Int) = ((p : Nat) : Int) := wraps_i64 _ (by omega) (by omega)
           have hp8 : p < 8 * n := by have := HQ8.out; omega
           have cl : w10.cell? ⟨bb, x8, none⟩ = some (.int .u8 (l1 : Nat)) := by rw [HL1.out, HX8.out]; exact H10.out.2.2.2.2.1.c (8 + x) (by omega)
           obtain ⟨v1, HV1⟩ : ∃ t, Hid (t = (if 8 * i ≤ p ∧ p < 8 * i + x then byteK yy.lo (p - 8 * i) else flt X.2 p)) := ⟨_, rfl⟩
           have cb : w10.cell? ⟨br, p, none⟩ = some (.int .u8 (v1 : Nat)) := by rw [HV1.out]; exact H10.out.2.2.2.1.c p hp8
           have zb : w10.frozen? ⟨br, p, none⟩ = false := by have := (H10.out.2.2.2.1.t p hp8).2; simpa using this
           go_wp2
           refine ⟨⟨x + 1, by omega, by go_num, ?_⟩, by simp only [intOf]; omega⟩
           obtain ⟨e, e1, e2, e3, e4, e6⟩ := H10.out
           have hl := e.lt
           have hz : l1 = byteK yy.lo x := by rw [HL1.out]; exact sb_lo HYO.out x hlx
           refine ⟨e1.setCell (by show w.heap.size ≤ br; omega) _, e2.far (by omega), (e3.set p l1 hp8).congr (fun q hq => ?_), e4.far (by omega), by have h1 := hl; have h2 := e6; simp [World.setCell]; omega⟩
           have hpi : p = 8 * i + x := by have := HPP.out; have := HI8.out; omega
           by_cases f1 : q = p
           ·subst f1; rw [if_pos rfl, if_pos (by omega), hz, show q - 8 * i = x by omega]
           ·rw [if_neg f1]
            by_cases f2 : 8 * i ≤ q ∧ q < 8 * i + x
            ·rw [if_pos f2, if_pos (by omega)]
            ·rw [if_neg f2, if_neg (by omega)]
          ·obtain rfl : x = 8 := by omega
           have HE : Hid (WS w w9 ba br n (unStep (nk + 6) K n k X) ∧ Rok (unStep (nk + 6) K n k X) ∧ aft (unStep (nk + 6) K n) (n * j + i) (unStep (nk + 6) K n k X) = F) := by
            have h := ut_end H9.out
            have e : unStep (nk + 6) K n k X = (yy.hi, setR X.2 i yy.lo) := by
             unfold unStep
             have hmod : k % n = i := by rw [HKN.out, Nat.mul_add_mod]; exact Nat.mod_eq_of_lt (by omega)
             rw [hmod, ← HK1.out, ← HYY.out]
            refine ⟨by rw [e]; exact h, unStep_ok HKK.out.2 _ _ _ HXo.out, by rw [← HKN.out]; exact HVF.out⟩
           clear H9
           have hi512 : i < 512 := by omega
           go_wp2
           refine ⟨⟨i, _, by omega, rfl, HE⟩, by simp only [intOf]; omega⟩
end Go.Proofs.YtgmfiljjogdccabGreatDoor
