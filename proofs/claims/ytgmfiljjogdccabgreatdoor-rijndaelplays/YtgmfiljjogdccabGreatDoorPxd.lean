import Derived.Test.YtgmfiljjogdccabGreatDoorPart00
import Derived.Test.YtgmfiljjogdccabGreatDoorPart33
import Derived.Test.YtgmfiljjogdccabGreatDoorPart24
import Derived.Deep.Onto
namespace Go.Proofs.YtgmfiljjogdccabGreatDoor
open Go.RowKit
set_option linter.unusedVariables false
/-- Numbers of eight bytes, one behind the other. -/
def flt (R : Nat → Nat) (q : Nat) : Nat := byteK (R (q / 8)) (q % 8)
theorem flt_lt (R : Nat → Nat) (q : Nat) : flt R q < 256 := byteK_lt _ _
theorem flt_halfs {f : Nat → Nat} (hf : ∀ i, f i < 256) (q : Nat) : flt (halfs f) q = f q := by
 unfold flt halfs
 have h := byteK_numK (fun k => f (8 * (q / 8) + k)) (fun k => hf _) (q % 8) (by omega)
 rw [h, show 8 * (q / 8) + q % 8 = q by omega]
theorem own_ab {u : World} {base m : Nat} {v : Value} {f : Nat → Nat} (h : u.ownsRow base 5 1 v m (abL m f)) (hm : 0 < m) : ∃ g c, v = .slice (some ⟨g, 0, none⟩) m c ∧ base ≤ g ∧ g < u.heap.size ∧ m ≤ c ∧ c ≤ maxLen ∧ Ab u g m f := by
 obtain ⟨g, c, rfl, hg, hgl⟩ := h.form hm
 have hcap : m ≤ c ∧ c ≤ maxLen := by
  rcases h.2 with ⟨h', _⟩ | ⟨g', c', cur, h', _, _, h3, h4, _⟩
  ·simp at h'
  ·simp only [Value.slice.injEq] at h'
   rw [h'.2.2]; exact ⟨h3, h4⟩
 have hc : ∀ j, j < m → u.cell? ⟨g, j, none⟩ = some (.int .u8 (f j : Nat)) := fun j hj => by rw [h.cellAt j (by omega)]; exact abL_at m f j hj
 exact ⟨g, c, rfl, hg, hgl, hcap.1, hcap.2, hc, fun j hj => by rw [Nat.zero_add]; exact ⟨by rw [hc j hj]; rfl, h.frozenAt j⟩⟩
/-- What wrapping has in memory: A, the numbers. -/
structure WS (w u : World) (ba br n : Nat) (x : Nat × (Nat → Nat)) : Prop where
 old : Below w.heap.size w u
 a : Ab u ba 8 (byteK x.1)
 r : Ab u br (8 * n) (flt x.2)
 lt : w.heap.size ≤ ba ∧ ba < br ∧ br < u.heap.size
theorem WS.below {w u u' : World} {ba br n : Nat} {x : Nat × (Nat → Nat)} (h : WS w u ba br n x) (hb : Below u.heap.size u u') : WS w u' ba br n x :=
 ⟨h.old.trans (hb.mono h.old.size), h.a.same (hb.block _ (by have := h.lt; omega)), h.r.same (hb.block _ h.lt.2.2), by have := h.lt; have := hb.size; omega⟩
/-- A block, half laid: its first x bytes, and those of its second half. -/
def hlf (A r x q : Nat) : Nat := if q < 8 then (if q < x then byteK A q else 0) else (if q - 8 < x then byteK r (q - 8) else 0)
theorem hlf_all (A r : Nat) (hA : A < 18446744073709551616) (hr : r < 18446744073709551616) (q : Nat) (hq : q < 16) : hlf A r 8 q = sb (joinW A r) q := by
 rw [sb_join A r hA hr q hq]
 unfold hlf
 by_cases h : q < 8
 ·rw [if_pos h, if_pos h, if_pos h]
 ·rw [if_neg h, if_neg h, if_pos (by omega)]
theorem hlf_next (A r x q : Nat) (hx : x < 8) : (if q = 8 + x then byteK r x else if q = x then byteK A x else hlf A r x q) = hlf A r (x + 1) q := by
 unfold hlf
 by_cases h1 : q = 8 + x
 ·subst h1
  rw [if_pos rfl, if_neg (by omega), if_pos (by omega), show 8 + x - 8 = x by omega]
 ·rw [if_neg h1]
  by_cases h2 : q = x
  ·subst h2; rw [if_pos rfl, if_pos hx, if_pos (by omega)]
  ·rw [if_neg h2]
   by_cases h3 : q < 8
   ·rw [if_pos h3, if_pos h3]
    by_cases h4 : q < x
    ·rw [if_pos h4, if_pos (by omega)]
    ·rw [if_neg h4, if_neg (by omega)]
   ·rw [if_neg h3, if_neg h3]
    by_cases h4 : q - 8 < x
    ·rw [if_pos h4, if_pos (by omega)]
    ·rw [if_neg h4, if_neg (by omega)]
/-- The same, a block and a number's bytes beside it; the last loop has come to x. -/
structure WT (w u : World) (ba br bb bt n i x : Nat) (X : Nat × (Nat → Nat)) (Y : W4) (k1 : Nat) : Prop where
 old : Below w.heap.size w u
 a : Ab u ba 8 (fun q => if q < x then byteK (Y.hi ^^^ k1) q else byteK X.1 q)
 r : Ab u br (8 * n) (fun q => if 8 * i ≤ q ∧ q < 8 * i + x then byteK Y.lo (q - 8 * i) else flt X.2 q)
 b : Ab u bb 16 (sb Y)
 t : Ab u bt 8 (byteK k1)
 lt : w.heap.size ≤ ba ∧ ba < br ∧ br < bb ∧ bb < bt ∧ bt < u.heap.size
theorem wt_end {w u : World} {ba br bb bt n i : Nat} {X : Nat × (Nat → Nat)} {Y : W4} {k1 : Nat} (h : WT w u ba br bb bt n i 8 X Y k1) : WS w u ba br n (Y.hi ^^^ k1, setR X.2 i Y.lo) := by
 refine ⟨h.old, h.a.congr (fun q hq => by rw [if_pos hq]), h.r.congr (fun q hq => ?_), by have := h.lt; omega⟩
 unfold flt
 by_cases e : 8 * i ≤ q ∧ q < 8 * i + 8
 ·rw [if_pos e]
  show _ = byteK (setR X.2 i Y.lo (q / 8)) (q % 8)
  rw [show q / 8 = i by omega, setR_same, show q - 8 * i = q % 8 by omega]
 ·rw [if_neg e]
  show _ = byteK (setR X.2 i Y.lo (q / 8)) (q % 8)
  rw [setR_other _ _ (by omega)]
set_option maxHeartbeats 6400000 in
set_option maxRecDepth 100000 in
theorem rwrapF_ok (g gr nk n b po cap A0 q8 : Nat) (K : Nat → Nat) (f : Nat → Nat) (w : World) (hr : RefAt w g gr nk K) (hnk : nk ≤ 8) (hK : ∀ i, K i < 4294967296) (h1 : 1 ≤ n) (h2 : n ≤ 512) (h8 : q8 = 8 * n) (hA : A0 < 18446744073709551616) (hb : b < w.heap.size) (hp : ∀ i, i < q8 → w.cell? ⟨b, po + i, none⟩ = some (.int .u8 (f i : Nat))) (hf : ∀ i, f i < 256) :
  Calls Tryz.prog 57 #[.pointer (some ⟨g, 0, none⟩), .agg (abL 8 (byteK A0)).toArray, .slice (some ⟨b, po, none⟩) q8 cap] w fun e w' => ∃ v, e = .returned v ∧ w'.ownsRow w.heap.size 5 1 v (8 + q8) (abL (8 + q8) (wrB (fore (wrStep (nk + 6) K n) (A0, halfs f) (6 * n)))) ∧ Below w.heap.size w w' := by
 obtain ⟨i0, hi, hz0, hz1, hz2⟩ := info_parts Tryz.info5
 obtain ⟨Y, HY⟩ : ∃ Y, Hid (Y = fore (wrStep (nk + 6) K n) (A0, halfs f)) := ⟨_, rfl⟩
 have HY0 : Hid (Y 0 = (A0, halfs f)) := by show _ = _; rw [HY.out]; rfl
 have HYs : Hid (∀ k, Y (k + 1) = wrStep (nk + 6) K n k (Y k)) := by show ∀ k, _; rw [HY.out]; exact fun k => rfl
 have HYo : Hid (∀ k, k ≤ 3072 → Rok (Y k)) := by
  show ∀ k, _
  intro k
  induction k with
  | zero => intro _; rw [HY0.out]; exact ⟨hA, fun i => halfs_lt hf i⟩
  | succ k ih => intro hk; rw [HYs.out]; exact wrStep_ok hK _ _ _ (by omega) (ih (by omega))
 rw [← HY.out]
 clear HY
 have HR : Hid (RefAt w g gr nk K) := hr
 have HKK : Hid (nk ≤ 8 ∧ ∀ i, K i < 4294967296) := ⟨hnk, hK⟩
 have HP : Hid (b < w.heap.size ∧ (∀ i, i < q8 → w.cell? ⟨b, po + i, none⟩ = some (.int .u8 (f i : Nat))) ∧ (∀ i, f i < 256)) := ⟨hb, hp, hf⟩
 have H8 : Hid (q8 = 8 * n) := h8
 have hdiv : ((q8 : Nat) : Int) / 8 = ((n : Nat) : Int) := by omega
 have hq8 : 8 ≤ q8 ∧ q8 ≤ 4096 := by omega
 clear hr hnk hK hA hb hp hf h8
 obtain ⟨AL, HAL⟩ : ∃ L, Hid (L = abL 8 (byteK A0)) := ⟨_, rfl⟩
 have HA0 : Hid (Below w.heap.size w (w.alloc (.cells AL.toArray 114)) ∧ Ab (w.alloc (.cells AL.toArray 114)) w.heap.size 8 (byteK A0) ∧ w.heap.size < (w.alloc (.cells AL.toArray 114)).heap.size) := by
  refine ⟨(Below.refl _ w).alloc (Nat.le_refl _) _, ?_, by simp⟩
  rw [HAL.out]
  exact ab_new w 8 _ 114
 rw [← HAL.out]
 obtain ⟨ba, HBA⟩ : ∃ ba, Hid (w.heap.size = ba) := ⟨_, rfl⟩
 go_enter Tryz.func57, Tryz.ntmps57
 go_upto_region 3 with fail
 generalize (w.alloc (.cells AL.toArray 114)) = w1 at HA0 ⊢
 rw [HBA.out] at HA0 ⊢
 have hnews : ∀ j u, (abL q8 f)[j]? = some u → w1.cell? ((⟨b, po, none⟩ : Addr).add j) = some u := fun j u hu => by
  have hj : j < q8 := by have := (List.getElem?_eq_some_iff.1 hu).1; rwa [abL_len] at this
  rw [abL_at _ _ _ hj] at hu
  rw [Addr.add_mid, HA0.out.1.cell (p := ⟨b, po + j, none⟩) (by rw [← HBA.out]; exact HP.out.1), HP.out.2.1 j hj]
  exact hu
 go_upto_region 4 with (at_builtin; refine wpList_append_grows _ rfl _ _ 22 rfl 5 i0 (.int .u8 0) 1 1 Tryz.underlying22 hi hz0 hz1 hz2 rfl (by decide) none 0 0 [] rfl (fun _ => ⟨rfl, rfl⟩) rfl (fun b hb => by cases hb) ⟨b, po, none⟩ q8 cap (abL q8 f) rfl (by rw [abL_len]; omega) hnews (abL_one _ _) (by omega) (by unfold maxLen; omega) (by omega) ?_; intro v1 w2 hown1 hgrow1)
 rw [Nat.zero_add, List.nil_append] at hown1
 obtain ⟨br, c1, rfl, hbr, hbr2, hc1, hc2, hab⟩ := own_ab hown1 (by omega)
 have HB2 : Hid (Below w1.heap.size w1 w2) := (Below.refl _ _).grown hgrow1 (Nat.le_refl _) (by intro k hk; cases hk)
 have HW0 : Hid (WS w w2 ba br n (Y 0)) := by
  refine ⟨?_, ?_, ?_, ?_⟩
  ·rw [HBA.out]; exact HA0.out.1.trans (HB2.out.mono (Nat.le_of_lt HA0.out.2.2))
  ·rw [HY0.out]; exact HA0.out.2.1.same (HB2.out.block _ HA0.out.2.2)
  ·rw [HY0.out, ← H8.out]; exact hab.congr (fun j hj => (flt_halfs HP.out.2.2 j).symm)
  ·have := HA0.out.2.2; have := HBA.out; omega
 clear hown1 hgrow1 hab HA0 HB2 hnews hbr hbr2
 go_wp2
 go_loopw [9] (fun vj wr => ∃ j : Nat, j ≤ 6 ∧ vj = .int .i64 (j : Nat) ∧ Hid (WS w wr ba br n (Y (n * j)))) (fun v _ => 6 - (intOf v).toNat)
 case atStart => exact ⟨0, by omega, rfl, by rw [Nat.mul_zero]; exact HW0⟩
 case round =>
  obtain ⟨j, hj, rfl, HW⟩ := hrel
  clear HW0
  by_cases hlt : j < 6
  ·have hji : ((j : Nat) : Int) < 6 := by omega
   go_wp2
   go_loopw [10] (fun vi wr => ∃ i : Nat, i ≤ n ∧ vi = .int .i64 (i : Nat) ∧ Hid (WS w wr ba br n (Y (n * j + i)))) (fun v _ => n - (intOf v).toNat)
   case atStart => exact ⟨0, by omega, rfl, HW⟩
   case round =>
    obtain ⟨i, hin, rfl, HV⟩ := hrel
    clear HW
    by_cases hli : i < n
    ·have hii : ((i : Nat) : Int) < (n : Nat) := by omega
     obtain ⟨k, HKN⟩ : ∃ k, Hid (k = n * j + i) := ⟨_, rfl⟩
     have hk3 : k < 3072 := by
      have e1 := HKN.out
      have e2 : n * j ≤ n * 5 := Nat.mul_le_mul_left _ (by omega)
      omega
     rw [← HKN.out] at HV
     obtain ⟨X, HX⟩ : ∃ X, Hid (X = Y k) := ⟨_, rfl⟩
     rw [← HX.out] at HV
     have HXo : Hid (Rok X) := by show Rok _; rw [HX.out]; exact HYo.out k (by omega)
     obtain ⟨bb, HBB⟩ : ∃ bb, Hid (wr.heap.size = bb) := ⟨_, rfl⟩
     have H3 : Hid (WS w (wr.alloc (.cells #[.int .u8 0, .int .u8 0, .int .u8 0, .int .u8 0, .int .u8 0, .int .u8 0, .int .u8 0, .int .u8 0, .int .u8 0, .int .u8 0, .int .u8 0, .int .u8 0, .int .u8 0, .int .u8 0, .int .u8 0, .int .u8 0] 37)) ba br n X ∧ Ab (wr.alloc (.cells #[.int .u8 0, .int .u8 0, .int .u8 0, .int .u8 0, .int .u8 0, .int .u8 0, .int .u8 0, .int .u8 0, .int .u8 0, .int .u8 0, .int .u8 0, .int .u8 0, .int .u8 0, .int .u8 0, .int .u8 0, .int .u8 0] 37)) wr.heap.size 16 zero8 ∧ wr.heap.size < (wr.alloc (.cells #[.int .u8 0, .int .u8 0, .int .u8 0, .int .u8 0, .int .u8 0, .int .u8 0, .int .u8 0, .int .u8 0, .int .u8 0, .int .u8 0, .int .u8 0, .int .u8 0, .int .u8 0, .int .u8 0, .int .u8 0, .int .u8 0] 37)).heap.size ∧ br < wr.heap.size) := by
      refine ⟨HV.out.below ((Below.refl _ _).alloc (Nat.le_refl _) _), ?_, by simp, HV.out.lt.2.2⟩
      rw [z16_ab]
      exact ab_new wr 16 zero8 37
     clear HV
     go_upto_region 11 with fail
     generalize (wr.alloc (.cells #[.int .u8 0, .int .u8 0, .int .u8 0, .int .u8 0, .int .u8 0, .int .u8 0, .int .u8 0, .int .u8 0, .int .u8 0, .int .u8 0, .int .u8 0, .int .u8 0, .int .u8 0, .int .u8 0, .int .u8 0, .int .u8 0] 37)) = w3 at H3 ⊢
     rw [HBB.out] at H3 ⊢
     obtain ⟨i8, HI8⟩ : ∃ t, Hid (t = 8 * i) := ⟨_, rfl⟩
     have hi8 : (8 : Int) * ((i : Nat) : Int) = ((i8 : Nat) : Int) := by have := HI8.out; omega
     have hi8n : i8 + 8 ≤ q8 := by have := HI8.out; have := H8.out; omega
     have hwi8 : IntKind.i64.wrap ((i8 : Nat) : Int) = ((i8 : Nat) : Int) := wraps_i64 _ (by omega) (by omega)
     go_wp2
     go_loopw [12] (fun vx w4 => ∃ x : Nat, x ≤ 8 ∧ vx = .int .i64 (x : Nat) ∧ Hid (WS w w4 ba br n X ∧ Ab w4 bb 16 (hlf X.1 (X.2 i) x) ∧ br < bb ∧ bb < w4.heap.size)) (fun v _ => 8 - (intOf v).toNat)
     case atStart => exact ⟨0, by omega, rfl, H3.out.1, H3.out.2.1.congr (fun q hq => by unfold hlf zero8; simp), H3.out.2.2.2, H3.out.2.2.1⟩
     case round =>
      obtain ⟨x, hx, rfl, H4⟩ := hrel
      clear H3
      rename World => w4
      by_cases hlx : x < 8
      ·have hxi : ((x : Nat) : Int) < 8 := by omega
       obtain ⟨a1, HA1⟩ : ∃ t, Hid (t = byteK X.1 x) := ⟨_, rfl⟩
       obtain ⟨r1, HR1⟩ : ∃ t, Hid (t = byteK (X.2 i) x) := ⟨_, rfl⟩
       obtain ⟨x8, HX8⟩ : ∃ t, Hid (t = 8 + x) := ⟨_, rfl⟩
       obtain ⟨p, HPP⟩ : ∃ t, Hid (t = i8 + x) := ⟨_, rfl⟩
       have hx8 : (8 : Int) + ((x : Nat) : Int) = ((x8 : Nat) : Int) := by have := HX8.out; omega
       have hx16 : ((x8 : Nat) : Int) < 16 := by have := HX8.out; omega
       have hwx8 : IntKind.i64.wrap ((x8 : Nat) : Int) = ((x8 : Nat) : Int) := wraps_i64 _ (by omega) (by omega)
       have hpp : ((i8 : Nat) : Int) + ((x : Nat) : Int) = ((p : Nat) : Int) := by have := HPP.out; omega
       have hpq : ((p : Nat) : Int) < (q8 : Nat) := by have := HPP.out; omega
       have hwp : IntKind.i64.wrap ((p : Nat) : Int) = ((p : Nat) : Int) := wraps_i64 _ (by omega) (by omega)
       have ca : w4.cell? ⟨ba, x, none⟩ = some (.int .u8 (a1 : Nat)) := by rw [HA1.out]; exact H4.out.1.a.c x hlx
       obtain ⟨v0, HV0⟩ : ∃ t, Hid (t = hlf X.1 (X.2 i) x x) := ⟨_, rfl⟩
       have cb : w4.cell? ⟨bb, x, none⟩ = some (.int .u8 (v0 : Nat)) := by rw [HV0.out]; exact H4.out.2.1.c x (by omega)
       have zb : w4.frozen? ⟨bb, x, none⟩ = false := by have := (H4.out.2.1.t x (by omega)).2; simpa using this
       have H5 : Hid (WS w (w4.setCell ⟨bb, x, none⟩ (.int .u8 (a1 : Nat))) ba br n X ∧ Ab (w4.setCell ⟨bb, x, none⟩ (.int .u8 (a1 : Nat))) bb 16 (fun q => if q = x then byteK X.1 x else hlf X.1 (X.2 i) x q) ∧ br < bb ∧ bb < (w4.setCell ⟨bb, x, none⟩ (.int .u8 (a1 : Nat))).heap.size) := by
        obtain ⟨e1, e2, e3, e4⟩ := H4.out
        have hl := e1.lt
        refine ⟨⟨e1.old.setCell (by show w.heap.size ≤ bb; omega) _, e1.a.far (by omega), e1.r.far (by omega), by simpa [World.setCell] using hl⟩, ?_, e3, by simpa [World.setCell] using e4⟩
        rw [HA1.out]
        exact e2.set x _ (by omega)
       go_upto_region 15 with fail
       generalize (w4.setCell ⟨bb, x, none⟩ (.int .u8 (a1 : Nat))) = w5 at H5 ⊢
       clear ca cb zb H4
       have ca : w5.cell? ⟨br, p, none⟩ = some (.int .u8 (r1 : Nat)) := by
        rw [H5.out.1.r.c p (by have := H8.out; omega), HR1.out, flt]
        rw [show p / 8 = i by have := HPP.out; have := HI8.out; omega, show p % 8 = x by have := HPP.out; have := HI8.out; omega]
       obtain ⟨v1, HV1⟩ : ∃ t, Hid (t = (if x8 = x then byteK X.1 x else hlf X.1 (X.2 i) x x8)) := ⟨_, rfl⟩
       have cb : w5.cell? ⟨bb, x8, none⟩ = some (.int .u8 (v1 : Nat)) := by rw [HV1.out]; exact H5.out.2.1.c x8 (by omega)
       have zb : w5.frozen? ⟨bb, x8, none⟩ = false := by have := (H5.out.2.1.t x8 (by omega)).2; simpa using this
       go_wp2
       refine ⟨⟨x + 1, by omega, by go_num, ?_⟩, by simp only [intOf]; omega⟩
       obtain ⟨e1, e2, e3, e4⟩ := H5.out
       have hl := e1.lt
       refine ⟨⟨e1.old.setCell (by show w.heap.size ≤ bb; omega) _, e1.a.far (by omega), e1.r.far (by omega), by simpa [World.setCell] using hl⟩, ?_, e3, by simpa [World.setCell] using e4⟩
       refine (e2.set x8 r1 (by omega)).congr (fun q hq => ?_)
       rw [HR1.out, HX8.out]
       exact hlf_next X.1 (X.2 i) x q hlx
      ·obtain rfl : x = 8 := by omega
       obtain ⟨e1, e2, e3, e4⟩ := H4.out
       obtain ⟨yy, HYY⟩ : ∃ y, Hid (y = encW (nk + 6) K (joinW X.1 (X.2 i))) := ⟨_, rfl⟩
       have HYO : Hid yy.ok := by show W4.ok _; rw [HYY.out]; exact encW_ok HKK.out.2 _ _
       obtain ⟨BL, HBL⟩ : ∃ L, Hid (L = abL 16 (sb (joinW X.1 (X.2 i)))) := ⟨_, rfl⟩
       obtain ⟨EL, HEL⟩ : ∃ L, Hid (L = abL 16 (sb yy)) := ⟨_, rfl⟩
       have HBA16 : Hid (A16 BL) := by show A16 _; rw [HBL.out, abL_16]; exact a16 _
       have HEA16 : Hid (A16 EL) := by show A16 _; rw [HEL.out, abL_16]; exact a16 _
       have HB4 : Hid (w4.rangeAt bb 0 BL) := by
        show World.rangeAt _ _ _ _
        rw [HBL.out]
        exact (e2.congr (fun q hq => hlf_all _ _ HXo.out.1 (HXo.out.2 i) q hq)).range
       have HC23 : Hid (Calls Tryz.prog 23 #[.pointer (some ⟨g, 0, none⟩), .agg BL.toArray] w4 fun e u' => e = .returned (.agg EL.toArray) ∧ Below w4.heap.size w4 u') := by
        show Calls _ _ _ _ _
        rw [HBL.out, HEL.out, abL_16, abL_16, arL_array, arL_array, HYY.out]
        exact renc_ok g gr nk K _ w4 (HR.out.below e1.old) HKK.out.1 HKK.out.2 (joinW_ok HXo.out.1 (HXo.out.2 i))
       have H4' : Hid (WS w w4 ba br n X ∧ Ab w4 bb 16 (hlf X.1 (X.2 i) 8) ∧ br < bb ∧ bb < w4.heap.size) := ⟨e1, e2, e3, e4⟩
       clear H4 e1 e2 e3 e4 hx hlx
       go_wp2_with (first
        | (refine wpList_load_mid (by rfl) 37 (.tmp 11) (by rfl) bb 0 (by rfl) BL _ HB4.out Tryz.underlying37 rfl HBA16.out.sz ?_)
        | (go_at_call 23; refine HC23.out.mono ?_))
       rintro e5 w5 ⟨rfl, hb5⟩
       have H5 : Hid (WS w w5 ba br n X ∧ Ab w5 bb 16 (hlf X.1 (X.2 i) 8) ∧ br < bb ∧ bb < w5.heap.size) := ⟨H4'.out.1.below hb5, H4'.out.2.1.same (hb5.block _ H4'.out.2.2.2), H4'.out.2.2.1, Nat.lt_of_lt_of_le H4'.out.2.2.2 hb5.size⟩
       have HT5 : Hid (w5.there bb 0 EL.toArray.size) := HEA16.out.there H5.out.2.1.t
       clear hb5 HB4 HC23 H4'
       go_upto_region 17 with (refine wpList_store_mid (by rfl) 37 (.tmp 11) (.tmp 51) (by rfl) bb 0 EL.toArray (by rfl) (by rfl) HT5.out HEA16.out.sza HEA16.out.one ?_)
       have H6 : Hid (WS w (w5.setCells bb 0 EL) ba br n X ∧ Ab (w5.setCells bb 0 EL) bb 16 (sb yy) ∧ br < bb ∧ bb < (w5.setCells bb 0 EL).heap.size) := by
        obtain ⟨e1, e2, e3, e4⟩ := H5.out
        have hl := e1.lt
        refine ⟨⟨belowB_setCells _ (by omega) _ _ _ e1.old, e1.a.stores _ (by omega), e1.r.stores _ (by omega), by rw [sizeB_setCells]; exact hl⟩, ?_, e3, by rw [sizeB_setCells]; exact e4⟩
        rw [HEL.out]
        exact ab_store _ e2.t
       try rw [List.toList_toArray]
       generalize (w5.setCells bb 0 EL) = w6 at H6 ⊢
       clear H5 HT5
       obtain ⟨nj, HNJ⟩ : ∃ t, Hid (t = n * j) := ⟨_, rfl⟩
       obtain ⟨k1, HK1⟩ : ∃ t, Hid (t = k + 1) := ⟨_, rfl⟩
       have hnj : ((n : Nat) : Int) * ((j : Nat) : Int) = ((nj : Nat) : Int) := by rw [HNJ.out]; exact (Int.natCast_mul n j).symm
       have hk : ((nj : Nat) : Int) + ((i : Nat) : Int) = ((k : Nat) : Int) := by have := HNJ.out; have := HKN.out; omega
       have hnk3 : nj ≤ k := by have := HNJ.out; have := HKN.out; omega
       have hwnj : IntKind.i64.wrap ((nj : Nat) : Int) = ((nj : Nat) : Int) := wraps_i64 _ (by omega) (by omega)
       have hwk : IntKind.i64.wrap ((k : Nat) : Int) = ((k : Nat) : Int) := wraps_i64 _ (by omega) (by omega)
       obtain ⟨TL, HTL⟩ : ∃ L, Hid (L = abL 8 (byteK k1)) := ⟨_, rfl⟩
       have HTA8 : Hid (A8 TL) := by show A8 _; rw [HTL.out]; exact a8 _
       have HC59 : Hid (Calls Tryz.prog 59 #[.int .u64 ((k : Int) + 1)] w6 fun e u' => e = .returned (.agg TL.toArray) ∧ Below w6.heap.size w6 u') := by
        show Calls _ _ _ _ _
        rw [HTL.out, HK1.out, show ((k : Int) + 1) = ((k + 1 : Nat) : Int) by omega]
        exact rnumber_ok (k + 1) w6 (by omega)
       go_wp2_with (first | (go_at_call 59; refine HC59.out.mono ?_))
       rintro e7 w7 ⟨rfl, hb7⟩
       have H7 : Hid (WS w w7 ba br n X ∧ Ab w7 bb 16 (sb yy) ∧ br < bb ∧ bb < w7.heap.size) := ⟨H6.out.1.below hb7, H6.out.2.1.same (hb7.block _ H6.out.2.2.2), H6.out.2.2.1, Nat.lt_of_lt_of_le H6.out.2.2.2 hb7.size⟩
       have HT7 : Hid ((w7.alloc (.cells #[.int .u8 0, .int .u8 0, .int .u8 0, .int .u8 0, .int .u8 0, .int .u8 0, .int .u8 0, .int .u8 0] 114)).there w7.heap.size 0 TL.toArray.size) := HTA8.out.there (there_new w7 _ 114 8 (by show 8 ≤ 8; omega))
       clear hb7 HC59 H6
       go_upto_region 18 with (refine wpList_store_mid (by rfl) 114 (.tmp 13) (.tmp 59) (by rfl) w7.heap.size 0 TL.toArray (by rfl) (by rfl) HT7.out HTA8.out.sza HTA8.out.one ?_)
       try rw [List.toList_toArray]
       obtain ⟨bt, HBT⟩ : ∃ bt, Hid (w7.heap.size = bt) := ⟨_, rfl⟩
       have H8' : Hid (WT w ((w7.alloc (.cells #[.int .u8 0, .int .u8 0, .int .u8 0, .int .u8 0, .int .u8 0, .int .u8 0, .int .u8 0, .int .u8 0] 114)).setCells w7.heap.size 0 TL) ba br bb w7.heap.size n i 0 X yy k1) := by
        obtain ⟨e1, e2, e3, e4⟩ := H7.out
        have hl := e1.lt
        have hb : Below w7.heap.size w7 (w7.alloc (.cells #[.int .u8 0, .int .u8 0, .int .u8 0, .int .u8 0, .int .u8 0, .int .u8 0, .int .u8 0, .int .u8 0] 114)) := (Below.refl _ _).alloc (Nat.le_refl _) _
        have f1 := e1.below hb
        have f2 := e2.same (hb.block _ e4)
        refine ⟨belowB_setCells _ (by omega) _ _ _ f1.old, (f1.a.stores _ (by omega)).congr (fun q hq => by rw [if_neg (by omega)]), (f1.r.stores _ (by omega)).congr (fun q hq => by rw [if_neg (by omega)]), f2.stores _ (by omega), ?_, by rw [sizeB_setCells]; simp; omega⟩
        rw [HTL.out]
        exact ab_store _ (there_new w7 _ 114 8 (by show 8 ≤ 8; omega))
       generalize ((w7.alloc (.cells #[.int .u8 0, .int .u8 0, .int .u8 0, .int .u8 0, .int .u8 0, .int .u8 0, .int .u8 0, .int .u8 0] 114)).setCells w7.heap.size 0 TL) = w8 at H8' ⊢
       rw [HBT.out] at H8' ⊢
       clear H7 HT7
       have hk1 : k1 < 18446744073709551616 := by have := HK1.out; omega
       go_wp2
       go_loopw [14] (fun vx w9 => ∃ x : Nat, x ≤ 8 ∧ vx = .int .i64 (x : Nat) ∧ Hid (WT w w9 ba br bb bt n i x X yy k1)) (fun v _ => 8 - (intOf v).toNat)
       case atStart => exact ⟨0, by omega, rfl, H8'⟩
       case round =>
        obtain ⟨x, hx, rfl, H9⟩ := hrel
        clear H8'
        rename World => w9
        by_cases hlx : x < 8
        ·have hxi : ((x : Nat) : Int) < 8 := by omega
         have hxi16 : ((x : Nat) : Int) < 16 := by omega
         obtain ⟨y1, HY1⟩ : ∃ t, Hid (t = sb yy x) := ⟨_, rfl⟩
         obtain ⟨t1, HT1⟩ : ∃ t, Hid (t = byteK k1 x) := ⟨_, rfl⟩
         obtain ⟨z1, HZ1⟩ : ∃ t, Hid (t = Nat.xor y1 t1) := ⟨_, rfl⟩
         obtain ⟨a1, HA1⟩ : ∃ t, Hid (t = byteK X.1 x) := ⟨_, rfl⟩
         obtain ⟨l1, HL1⟩ : ∃ t, Hid (t = sb yy (8 + x)) := ⟨_, rfl⟩
         have hxor : bits .xor .u8 ((y1 : Nat) : Int) ((t1 : Nat) : Int) = ((z1 : Nat) : Int) := by
          rw [HZ1.out]
          exact xor8 y1 t1 (by rw [HY1.out]; exact sb_lt _ _) (by rw [HT1.out]; exact byteK_lt _ _)
         have hSt : w9.drew.cell? ⟨bb, x, none⟩ = some (.int .u8 (y1 : Nat)) ∧ w9.drew.cell? ⟨bt, x, none⟩ = some (.int .u8 (t1 : Nat)) := ⟨by rw [HY1.out]; exact H9.out.b.c x (by omega), by rw [HT1.out]; exact H9.out.t.c x hlx⟩
         have hca : w9.cell? ⟨ba, x, none⟩ = some (.int .u8 (a1 : Nat)) := by rw [H9.out.a.c x hlx, if_neg (by omega), HA1.out]
         have hza : w9.frozen? ⟨ba, x, none⟩ = false := by have := (H9.out.a.t x hlx).2; simpa using this
         go_upto_region 21 with fail
         refine wp_region_noPanic ?_
         refine wp_region_till (fun u => u.cell? ⟨bb, x, none⟩ = some (.int .u8 (y1 : Nat)) ∧ u.cell? ⟨bt, x, none⟩ = some (.int .u8 (t1 : Nat))) 8 (by kernel_rfl) (by decide) (by decide +kernel) (by decide +kernel) (by decide +kernel) (fun inv => ?_)
         refine tU 0 64 (.int .i64 (x : Nat)) inv rfl rfl hSt fun inv => ?_
         simp only [pU]
         refine tU 1 65 (.int .i64 (x : Nat)) inv rfl rfl hSt fun inv => ?_
         simp only [pU]
         refine tU 2 66 (.pointer (some ⟨bb, x, none⟩)) inv rfl rfl hSt fun inv => ?_
         simp only [pU]
         refine tT 3 67 (.int .u8 (y1 : Nat)) inv rfl rfl (by decide +kernel) (hSt) (Or.inl ⟨by rfl, fun w' hS' => by have q1 := hS'.1; go_simp⟩) (fun inv => ?_)
         simp only [pU]
         refine tU 4 68 (.int .i64 (x : Nat)) inv rfl rfl hSt fun inv => ?_
         simp only [pU]
         refine tU 5 69 (.pointer (some ⟨bt, x, none⟩)) inv rfl rfl hSt fun inv => ?_
         simp only [pU]
         refine tT 6 70 (.int .u8 (t1 : Nat)) inv rfl rfl (by decide +kernel) (hSt) (Or.inl ⟨by rfl, fun w' hS' => by have q1 := hS'.2; go_simp⟩) (fun inv => ?_)
         simp only [pU]
         refine tU 7 71 (.int .u8 (z1 : Nat)) inv rfl rfl hSt fun inv => ?_
         simp only [pU]
         refine till_tail (i := 8) (by decide +kernel) (by decide) rfl (fun Kx hK => ?_)
         rw [if_pos (by kernel_rfl)]
         go_simp
         refine hK.out _ _ ?_
         clear hK Kx
         try simp only [Act.put, pU]
         refine till_tail (i := 9) (by decide +kernel) (by decide) rfl (fun Kx hK => ?_)
         rw [if_pos (by kernel_rfl)]
         have q1 : w9.drew.cell? ⟨ba, x, none⟩ = some (.int .u8 (a1 : Nat)) := hca
         have q2 : w9.drew.frozen? ⟨ba, x, none⟩ = false := hza
         go_simp
         refine hK.out _ _ ?_
         clear hK Kx
         refine till_done (by decide +kernel) ?_ _
         refine NoPanic.normal ?_
         clear q1 q2 hSt hca hza
         have H10 : Hid (WT w w9 ba br bb bt n i x X yy k1 ∧ Below w.heap.size w ((w9.setCell ⟨ba, x, none⟩ (.int .u8 (z1 : Nat))).drew) ∧ Ab ((w9.setCell ⟨ba, x, none⟩ (.int .u8 (z1 : Nat))).drew) ba 8 (fun q => if q < x + 1 then byteK (yy.hi ^^^ k1) q else byteK X.1 q) ∧ Ab ((w9.setCell ⟨ba, x, none⟩ (.int .u8 (z1 : Nat))).drew) br (8 * n) (fun q => if 8 * i ≤ q ∧ q < 8 * i + x then byteK yy.lo (q - 8 * i) else flt X.2 q) ∧ Ab ((w9.setCell ⟨ba, x, none⟩ (.int .u8 (z1 : Nat))).drew) bb 16 (sb yy) ∧ Ab ((w9.setCell ⟨ba, x, none⟩ (.int .u8 (z1 : Nat))).drew) bt 8 (byteK k1) ∧ bt < ((w9.setCell ⟨ba, x, none⟩ (.int .u8 (z1 : Nat))).drew).heap.size) := by
          have e := H9.out
          have hl := e.lt
          have hz : z1 = byteK (yy.hi ^^^ k1) x := by rw [HZ1.out, HY1.out, HT1.out, byteK_xor, sb_hi HYO.out x hlx]
          have s1 := e.a.set x z1 hlx
          have s2 := e.r.far (b' := ba) (o := x) (v := .int .u8 (z1 : Nat)) (by omega)
          have s3 := e.b.far (b' := ba) (o := x) (v := .int .u8 (z1 : Nat)) (by omega)
          have s4 := e.t.far (b' := ba) (o := x) (v := .int .u8 (z1 : Nat)) (by omega)
          have s1' : Ab ((w9.setCell ⟨ba, x, none⟩ (.int .u8 (z1 : Nat))).drew) ba 8 (fun j => if j = x then z1 else if j < x then byteK (yy.hi ^^^ k1) j else byteK X.1 j) := ⟨s1.c, s1.t⟩
          refine ⟨e, (e.old.setCell (by show w.heap.size ≤ ba; omega) _).drew, s1'.congr (fun q hq => ?_), ⟨s2.c, s2.t⟩, ⟨s3.c, s3.t⟩, ⟨s4.c, s4.t⟩, by simpa [World.setCell] using hl.2.2.2.2⟩
          by_cases e1 : q = x
          ·subst e1; rw [if_pos rfl, if_pos (by omega), hz]
          ·rw [if_neg e1]
           by_cases e2 : q < x
           ·rw [if_pos e2, if_pos (by omega)]
           ·rw [if_neg e2, if_neg (by omega)]
         generalize (w9.setCell ⟨ba, x, none⟩ (.int .u8 (z1 : Nat))).drew = w10 at H10 ⊢
         clear H9
         obtain ⟨x8, HX8⟩ : ∃ t, Hid (t = 8 + x) := ⟨_, rfl⟩
         obtain ⟨p, HPP⟩ : ∃ t, Hid (t = i8 + x) := ⟨_, rfl⟩
         have hx8 : (8 : Int) + ((x : Nat) : Int) = ((x8 : Nat) : Int) := by have := HX8.out; omega
         have hx16 : ((x8 : Nat) : Int) < 16 := by have := HX8.out; omega
         have hwx8 : IntKind.i64.wrap ((x8 : Nat) : Int) = ((x8 : Nat) : Int) := wraps_i64 _ (by omega) (by omega)
         have hpp : ((i8 : Nat) : Int) + ((x : Nat) : Int) = ((p : Nat) : Int) := by have := HPP.out; omega
         have hpq : ((p : Nat) : Int) < (q8 : Nat) := by have := HPP.out; omega
         have hwp : IntKind.i64.wrap ((p : Nat) : Int) = ((p : Nat) : Int) := wraps_i64 _ (by omega) (by omega)
         have hp8 : p < 8 * n := by have := H8.out; omega
         have cl : w10.cell? ⟨bb, x8, none⟩ = some (.int .u8 (l1 : Nat)) := by rw [HL1.out, HX8.out]; exact H10.out.2.2.2.2.1.c (8 + x) (by omega)
         obtain ⟨v1, HV1⟩ : ∃ t, Hid (t = (if 8 * i ≤ p ∧ p < 8 * i + x then byteK yy.lo (p - 8 * i) else flt X.2 p)) := ⟨_, rfl⟩
         have cb : w10.cell? ⟨br, p, none⟩ = some (.int .u8 (v1 : Nat)) := by rw [HV1.out]; exact H10.out.2.2.2.1.c p hp8
         have zb : w10.frozen? ⟨br, p, none⟩ = false := by have := (H10.out.2.2.2.1.t p hp8).2; simpa using this
         go_wp2
         refine ⟨⟨x + 1, by omega, by go_num, ?_⟩, by simp only [intOf]; omega⟩
         obtain ⟨e, e1, e2, e3, e4, e5, e6⟩ := H10.out
         have hl := e.lt
         have hz : l1 = byteK yy.lo x := by rw [HL1.out]; exact sb_lo HYO.out x hlx
         refine ⟨e1.setCell (by show w.heap.size ≤ br; omega) _, e2.far (by omega), (e3.set p l1 hp8).congr (fun q hq => ?_), e4.far (by omega), e5.far (by omega), by have h1 := hl; have h2 := e6; simp [World.setCell]; omega⟩
         have hpi : p = 8 * i + x := by have := HPP.out; have := HI8.out; omega
         by_cases f1 : q = p
         ·subst f1; rw [if_pos rfl, if_pos (by omega), hz, show q - 8 * i = x by omega]
         ·rw [if_neg f1]
          by_cases f2 : 8 * i ≤ q ∧ q < 8 * i + x
          ·rw [if_pos f2, if_pos (by omega)]
          ·rw [if_neg f2, if_neg (by omega)]
        ·obtain rfl : x = 8 := by omega
         have HE : Hid (WS w w9 ba br n (Y (n * j + (i + 1)))) := by
          have h := wt_end H9.out
          have e : Y (n * j + (i + 1)) = (yy.hi ^^^ k1, setR X.2 i yy.lo) := by
           rw [← Nat.add_assoc, ← HKN.out, HYs.out, ← HX.out]
           unfold wrStep
           have hmod : k % n = i := by rw [HKN.out, Nat.mul_add_mod]; exact Nat.mod_eq_of_lt hli
           rw [hmod, ← HYY.out, HK1.out]
          rw [e]; exact h
         clear H9
         go_wp2
         refine ⟨⟨i + 1, by omega, by go_num, HE⟩, by simp only [intOf]; omega⟩
    ·obtain rfl : i = n := by omega
     go_wp2
     refine ⟨⟨j + 1, by omega, by go_num, ?_⟩, by simp only [intOf]; omega⟩
     rw [Nat.mul_add, Nat.mul_one]
     exact HV
  ·obtain rfl : j = 6 := by omega
   obtain ⟨X, HX⟩ : ∃ X, Hid (X = Y (6 * n)) := ⟨_, rfl⟩
   rw [Nat.mul_comm n 6, ← HX.out] at HW
   have HL : Hid (∀ j u, (abL 8 (byteK X.1))[j]? = some u → wr.cell? ((⟨ba, 0, none⟩ : Addr).add j) = some u) := fun j u hu => by
    have := HW.out.a.range j u hu
    rw [Addr.add_mid]; exact this
   have HN : Hid (∀ j u, (abL q8 (flt X.2))[j]? = some u → wr.cell? ((⟨br, 0, none⟩ : Addr).add j) = some u) := fun j u hu => by
    have h := HW.out.r.range
    rw [← H8.out] at h
    have := h j u hu
    rw [Addr.add_mid]; exact this
   have hsl : ∀ u : World, Sem.run Tryz.prog (Instr.sliceAt 114 (.pointer (some ⟨ba, 0, none⟩)) none none none) u = .ok (.slice (some ⟨ba, 0, none⟩) 8 8) u := fun u => by kernel_rfl
   go_wp2_with (at_builtin; refine wpList_append_grows _ rfl _ _ 22 rfl 5 i0 (.int .u8 0) 1 1 Tryz.underlying22 hi hz0 hz1 hz2 rfl (by decide) (some ⟨ba, 0, none⟩) 8 8 (abL 8 (byteK X.1)) rfl (fun h => by cases h) (by rw [abL_len]) (fun b hb j u hu => by cases hb; exact HL.out j u hu) ⟨br, 0, none⟩ q8 c1 (abL q8 (flt X.2)) rfl (by rw [abL_len]; omega) HN.out (abL_one _ _) (by omega) (by unfold maxLen; omega) (by omega) ?_; intro v5 w5 hown5 hgrow5)
   have HB5 : Hid (Below wr.heap.size wr w5) := (Below.refl _ _).grown hgrow5 (Nat.le_refl _) (by intro k hk; cases hk)
   have HO5 : Hid (w5.ownsRow w.heap.size 5 1 v5 (8 + q8) (abL (8 + q8) (wrB X))) := by
    have h := hown5.mono HW.out.old.size
    have e : abL 8 (byteK X.1) ++ abL q8 (flt X.2) = abL (8 + q8) (wrB X) := by
     refine List.ext_getElem? (fun i => ?_)
     by_cases h1 : i < 8
     ·rw [List.getElem?_append_left (by rw [abL_len]; exact h1), abL_at _ _ _ h1, abL_at _ _ _ (by omega), wrB, if_pos h1]
     ·by_cases h2 : i < 8 + q8
      ·rw [List.getElem?_append_right (by rw [abL_len]; omega), abL_len, abL_at _ _ _ (by omega), abL_at _ _ _ h2, wrB, if_neg h1, flt]
      ·rw [List.getElem?_eq_none (by simp [abL_len]; omega), List.getElem?_eq_none (by simp [abL_len]; omega)]
    rw [e] at h
    exact h
   go_ret
   exact ⟨_, rfl, by rw [← HX.out]; exact HO5.out, HW.out.old.trans (HB5.out.mono HW.out.old.size)⟩
end Go.Proofs.YtgmfiljjogdccabGreatDoor
