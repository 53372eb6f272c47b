import Derived.Test.YtkeklmkaleomkaaDoorPart10
import Derived.Test.YtkeklmkaleomkaaDoorPart04
import Derived.Test.YtkeklmkaleomkaaDoorPart05
import Derived.Deep.RegionWith
namespace Go.Proofs.YtkeklmkaleomkaaDoor
open Go.RowKit
set_option linter.unusedVariables false
set_option linter.unusedSimpArgs false
/-- append of bytes that are seen, nil or not, to a row that is owned. -/
theorem wpList_append_view {w : World} {ops : Array Oper} {rest : List Oper} {o : Oper} {a : Act} {Q : Exit → Act → World → Prop} (hgd : o.guard = none) (s x : Operand)
    (ho : o.op = .call { callee := .builtin .append, args := #[s, x], argTypes := #[22, 22] }) (base n n' : Nat) (v : Value) (A : List Int) (hs : a.eval s = v) (hown : w.ownsRow base 5 1 v n (cellsU8 A)) (xa : Option Addr) (m c : Nat) (hx : a.eval x = .slice xa m c) (Z : List Int) (hv : View w (.slice xa m c) Z) (hm : Z.length = m) (hn' : n' = n + m) (hl : n + m ≤ 140737488355328) (hbase : base ≤ w.heap.size)
    (h : ∀ v' w', w'.ownsRow base 5 1 v' n' (cellsU8 (A ++ Z)) → w.grownBy w' v.ownBlock → (v'.ownBlock = v.ownBlock ∨ v'.ownBlock = some w.heap.size) → wpList Tryd.prog ops Q rest (a.put o.dst v') w') : wpList Tryd.prog ops Q (o :: rest) a w := by
  obtain ⟨i0, hi, hz0, hz1, hz2⟩ := info_parts Tryd.info5
  rcases view_cases hv hm with ⟨rfl, rfl, rfl, rfl⟩ | ⟨ad, rfl, hc⟩
  · refine wpList_append_own_none hgd s x 22 ho base 5 i0 1 Tryd.underlying22 hi v n (cellsU8 A) hs hown hx ?_
    refine h v w (by rw [hn', List.append_nil]; exact hown) ⟨rfl, rfl, rfl, Nat.le_refl _, fun _ _ _ => rfl⟩ (.inl rfl)
  · refine wpList_append_own_at _ hgd s x 22 ho base 5 i0 (.int .u8 0) 1 1 Tryd.underlying22 hi hz0 hz1 hz2 rfl (by decide) v n (cellsU8 A) hs hown ad m c (cellsU8 Z) hx (by rw [cellsU8_length, hm, Nat.mul_one]) hc (cellsU8_one _) (by unfold maxLen; omega) (by omega) hbase ?_
    intro v' w' h1 h2 _ h4
    rw [← cellsU8_append, ← hn'] at h1
    exact h v' w' h1 h2 h4
set_option maxHeartbeats 1600000 in
set_option maxRecDepth 100000 in
/-- cofferref06.joined. -/
theorem rjoined_ok (a : Option Addr) (n c : Nat) (xs : List Value) (yss : List (List Int)) (w : World) (hP : Hid (PV w (.slice a n c) xs yss)) (hxn : Hid (xs.length = n)) (hs : Hid (yss.flatten.length ≤ 1048576)) (hn : n ≤ 1048576) :
    Calls Tryd.prog 30 #[.slice a n c] w fun e w' => Hid (∃ v', e = .returned v' ∧ w'.ownsRow w.heap.size 5 1 v' yss.flatten.length (cellsU8 yss.flatten) ∧ Below w.heap.size w w') := by
  obtain ⟨i0, hi, hz0, hz1, hz2⟩ := info_parts Tryd.info5
  have hyn : Hid (yss.length = n) := by
    obtain ⟨_, _, _, _, _, h3, _⟩ := hP.out
    show _ = _
    rw [← h3, hxn.out]
  obtain ⟨Z, HZ⟩ : ∃ Z, Hid (Z = yss.flatten) := ⟨_, rfl⟩
  rw [← HZ.out]
  go_enter Tryd.func30, Tryd.ntmps30
  go_wp2
  go_loopw [3, 4] (fun v vi wr => ∃ i l c : Nat, ∃ a : Option Addr, Hid (l = ((yss.take i).flatten).length) ∧ i ≤ n ∧ vi = .int .i64 i ∧ v = .slice a l c ∧ Hid (wr.ownsRow w.heap.size 5 1 (.slice a l c) l (cellsU8 ((yss.take i).flatten))) ∧ Hid (Below w.heap.size w wr)) (fun _ vi _ => n - (intOf vi).toNat)
  case atStart => exact ⟨0, 0, 0, none, rfl, by omega, rfl, rfl, World.ownsRow_nil _ _ _ _, Below.refl _ _⟩
  case round =>
    obtain ⟨i, l, c3, a3, HL, hin, rfl, rfl, HO3, HB3⟩ := hrel
    have hl1 : l ≤ 1048576 := by
      have h1 := sum_le yss i
      have h2 := HL.out
      have h3 := hs.out
      omega
    by_cases hlt : i < n
    · have hii : i < xs.length := by rw [hxn.out]; exact hlt
      obtain ⟨x, hx⟩ : ∃ x, xs[i]? = some x := ⟨_, List.getElem?_eq_getElem hii⟩
      obtain ⟨b, p, hab⟩ : ∃ b p, a = some ⟨b, p, none⟩ := by
        obtain ⟨a', c', e, h1, h2, h3, h4, h5⟩ := hP.out
        injection e with e1 e2 e3
        rcases h5 with h5 | ⟨b, p, e5, _⟩
        · rw [h5] at hii; simp at hii
        · exact ⟨b, p, by rw [e1, e5]⟩
      subst hab
      have hcell : w.cell? ⟨b, p + i, none⟩ = some x ∧ View w x (yss.getD i []) := by
        obtain ⟨a', c', e, h1, h2, h3, h4, h5⟩ := hP.out
        injection e with e1 e2 e3
        rcases h5 with h5 | ⟨b', p', e5, h6⟩
        · rw [h5] at hii; simp at hii
        · rw [e5] at e1
          injection e1 with e1
          injection e1 with e6 e7
          subst e6 e7
          exact ⟨h6 i x hx, h4 i x hx⟩
      obtain ⟨Y, HY⟩ : ∃ Y, Hid (Y = yss.getD i []) := ⟨_, rfl⟩
      have HStep : Hid ((yss.take (i + 1)).flatten = (yss.take i).flatten ++ Y) := by
        show _ = _
        rw [HY.out, flat_step yss i (by rw [hyn.out]; exact hlt)]
      have hYl : Y.length ≤ 1048576 := by
        have h1 := sum_le yss (i + 1)
        rw [HStep.out, List.length_append] at h1
        have h3 := hs.out
        omega
      have f0 : wr.cell? ⟨b, p + i, none⟩ = some x := by rw [HB3.out.cell (p := ⟨b, p + i, none⟩) (lt_of_cell hcell.1)]; exact hcell.1
      have HV : Hid (View wr x Y) := by
        rw [HY.out]
        exact hcell.2.kept fun b hb => HB3.out.block b hb
      clear hcell
      obtain ⟨ax, cx, hxe⟩ : ∃ ax cx, x = .slice ax Y.length cx := by
        obtain ⟨a', c', e, _⟩ := HV.out
        exact ⟨a', c', e⟩
      subst hxe
      obtain ⟨m, hm⟩ : ∃ m, m = Y.length := ⟨_, rfl⟩
      rw [← hm] at f0 HV hYl
      have HYm : Hid (Y.length = m) := hm.symm
      clear hm hx
      go_wp2_with (first | (at_builtin; go_must (refine wpList_append_view rfl (.tmp 11) (.tmp 15) rfl w.heap.size l (l + m) (.slice a3 l c3) ((yss.take i).flatten) rfl HO3.out ax m cx rfl Y HV.out HYm.out rfl (by omega) HB3.out.size ?_)))
      intro v4 w4 hown4 hgrow4 hat4
      have HB4 : Hid (Below w.heap.size w w4) := HB3.out.grown hgrow4 HB3.out.size (fun q hq => (HO3.out.lt q hq).1)
      obtain ⟨a4, c4, rfl⟩ := owns_slice0 hown4
      have HO4 : Hid (w4.ownsRow w.heap.size 5 1 (.slice a4 (l + m) c4) (l + m) (cellsU8 ((yss.take (i + 1)).flatten)) ∧ l + m = ((yss.take (i + 1)).flatten).length) := by
        rw [HStep.out, List.length_append, ← HL.out, HYm.out]
        exact ⟨hown4, rfl⟩
      clear hown4 hgrow4 hat4
      go_wp2
      go_roundw
      case rel => exact ⟨i + 1, l + m, c4, a4, HO4.out.2, by omega, by go_num, rfl, HO4.out.1, HB4⟩
      case measure => simp [intOf]; omega
    · have d1 : ¬ ((i : Nat) : Int) < (n : Nat) := by omega
      have hie : Hid (i = yss.length) := by show _ = _; rw [hyn.out]; omega
      go_wp2
      go_ret
      refine ⟨_, rfl, ?_, HB3.out⟩
      have q := HO3.out
      have e := flat_all yss i hie.out
      rw [e, ← HZ.out] at q
      have q2 := HL.out
      rw [e, ← HZ.out] at q2
      rw [← q2]
      exact q
end Go.Proofs.YtkeklmkaleomkaaDoor
namespace Go.Proofs.YtkeklmkaleomkaaDoor
open Go.RowKit
set_option linter.unusedVariables false
set_option linter.unusedSimpArgs false
/-- The document's spring at g. -/
structure RSp (w : World) (g : Nat) (dg L c : Int) (ka : Option Addr) (kc : Nat) (va : Option Addr) (vc : Nat) (KL VL : List Int) : Prop where
  c0 : w.cell? ⟨g, 0, none⟩ = some (.int .i64 dg)
  c1 : w.cell? ⟨g, 1, none⟩ = some (.int .i64 L)
  c2 : w.cell? ⟨g, 2, none⟩ = some (.int .i64 c)
  c3 : w.cell? ⟨g, 3, none⟩ = some (.slice ka (szOf dg) kc)
  c4 : w.cell? ⟨g, 4, none⟩ = some (.slice va (szOf dg) vc)
  there : w.there g 0 5
  vK : View w (.slice ka (szOf dg) kc) KL
  lK : KL.length = szOf dg
  vV : View w (.slice va (szOf dg) vc) VL
  lV : VL.length = szOf dg
  aK : ∀ b off, ka = some ⟨b, off, none⟩ → b ≠ g
  aV : ∀ b off, va = some ⟨b, off, none⟩ → b ≠ g
theorem RSp.lt {w : World} {g : Nat} {dg L c : Int} {ka va : Option Addr} {kc vc : Nat} {KL VL : List Int} (s : RSp w g dg L c ka kc va vc KL VL) : g < w.heap.size := lt_of_cell s.c0
theorem RSp.below {w v : World} {g : Nat} {dg L c : Int} {ka va : Option Addr} {kc vc : Nat} {KL VL : List Int} (s : RSp w g dg L c ka kc va vc KL VL) (b : Below w.heap.size w v) : RSp v g dg L c ka kc va vc KL VL := by
  have hb := b.block g s.lt
  have hc : ∀ j, v.cell? ⟨g, j, none⟩ = w.cell? ⟨g, j, none⟩ := fun j => World.cell?_of_block (a := ⟨g, j, none⟩) hb
  have hf : ∀ j, v.frozen? ⟨g, j, none⟩ = w.frozen? ⟨g, j, none⟩ := fun j => World.frozen?_of_block (a := ⟨g, j, none⟩) hb
  exact ⟨by rw [hc]; exact s.c0, by rw [hc]; exact s.c1, by rw [hc]; exact s.c2, by rw [hc]; exact s.c3, by rw [hc]; exact s.c4, fun j hj => by rw [hc, hf]; exact s.there j hj, s.vK.kept (fun q hq => b.block q hq), s.lK, s.vV.kept (fun q hq => b.block q hq), s.lV, s.aK, s.aV⟩
theorem RSp.setK {w : World} {g : Nat} {dg L c : Int} {ka va : Option Addr} {kc vc : Nat} {KL VL : List Int} (s : RSp w g dg L c ka kc va vc KL VL) (xa : Option Addr) (xc : Nat) (X : List Int) (hx : View w (.slice xa (szOf dg) xc) X) (hl : X.length = szOf dg) (ha : ∀ b off, xa = some ⟨b, off, none⟩ → b ≠ g) :
    RSp (w.setCell ⟨g, 3, none⟩ (.slice xa (szOf dg) xc)) g dg L c xa xc va vc X VL := by
  have out : ∀ j, j ≠ 3 → (w.setCell ⟨g, 3, none⟩ (.slice xa (szOf dg) xc)).cell? ⟨g, j, none⟩ = w.cell? ⟨g, j, none⟩ := fun j hj => World.cell?_setCell_other _ _ _ _ (by intro q; injection q with _ q2; omega)
  have t : Touch w (w.setCell ⟨g, 3, none⟩ (.slice xa (szOf dg) xc)) g 0 5 := (Touch.refl w g 0 5).setCell 3 _ (by omega) (by omega)
  exact ⟨by rw [out 0 (by omega)]; exact s.c0, by rw [out 1 (by omega)]; exact s.c1, by rw [out 2 (by omega)]; exact s.c2, World.cell?_setCell_same' _ _ _ (by rw [s.c3]; rfl), by rw [out 4 (by omega)]; exact s.c4, World.there_setCells s.there g 3 [.slice xa (szOf dg) xc], t.view hx (fun b off l c' e => .inl (by injection e with e1 _ _; exact ha b off e1)), hl, t.view s.vV (fun b off l c' e => .inl (by injection e with e1 _ _; exact s.aV b off e1)), s.lV, ha, s.aV⟩
theorem RSp.setV {w : World} {g : Nat} {dg L c : Int} {ka va : Option Addr} {kc vc : Nat} {KL VL : List Int} (s : RSp w g dg L c ka kc va vc KL VL) (xa : Option Addr) (xc : Nat) (X : List Int) (hx : View w (.slice xa (szOf dg) xc) X) (hl : X.length = szOf dg) (ha : ∀ b off, xa = some ⟨b, off, none⟩ → b ≠ g) :
    RSp (w.setCell ⟨g, 4, none⟩ (.slice xa (szOf dg) xc)) g dg L c ka kc xa xc KL X := by
  have out : ∀ j, j ≠ 4 → (w.setCell ⟨g, 4, none⟩ (.slice xa (szOf dg) xc)).cell? ⟨g, j, none⟩ = w.cell? ⟨g, j, none⟩ := fun j hj => World.cell?_setCell_other _ _ _ _ (by intro q; injection q with _ q2; omega)
  have t : Touch w (w.setCell ⟨g, 4, none⟩ (.slice xa (szOf dg) xc)) g 0 5 := (Touch.refl w g 0 5).setCell 4 _ (by omega) (by omega)
  exact ⟨by rw [out 0 (by omega)]; exact s.c0, by rw [out 1 (by omega)]; exact s.c1, by rw [out 2 (by omega)]; exact s.c2, by rw [out 3 (by omega)]; exact s.c3, World.cell?_setCell_same' _ _ _ (by rw [s.c4]; rfl), World.there_setCells s.there g 4 [.slice xa (szOf dg) xc], t.view s.vK (fun b off l c' e => .inl (by injection e with e1 _ _; exact s.aK b off e1)), s.lK, t.view hx (fun b off l c' e => .inl (by injection e with e1 _ _; exact ha b off e1)), hl, s.aK, ha⟩
/-- The state behind q steps of update. -/
def rst (dg : Int) (KL VL xs : List Int) : Nat → List Int × List Int
  | 0 => (KL, VL)
  | q + 1 => (hmac dg (rst dg KL VL xs q).1 ((rst dg KL VL xs q).2 ++ ((q : Nat) : Int) :: xs), hmac dg (hmac dg (rst dg KL VL xs q).1 ((rst dg KL VL xs q).2 ++ ((q : Nat) : Int) :: xs)) (rst dg KL VL xs q).2)
theorem RTab.touch {w w' : World} {g o n : Nat} (h : RTab w) (t : Touch w w' g o n) (hg : 4 ≤ g) : RTab w' := h.kept fun k hk => t.block k (by have := h.size; omega) (by omega)
end Go.Proofs.YtkeklmkaleomkaaDoor
namespace Go.Proofs.YtkeklmkaleomkaaDoor
open Go.RowKit
set_option linter.unusedVariables false
set_option linter.unusedSimpArgs false
/-- Both slices lie in new memory. -/
def New2 (w : World) (ka va : Option Addr) : Prop := (∀ b off, ka = some ⟨b, off, none⟩ → w.heap.size ≤ b) ∧ (∀ b off, va = some ⟨b, off, none⟩ → w.heap.size ≤ b)
/-- What update leaves. -/
def RUpd (w w' : World) (g : Nat) (dg L c : Int) (KL VL xs : List Int) : Prop := ∃ ka' kc' va' vc', RSp w' g dg L c ka' kc' va' vc' (rst dg KL VL xs (if xs.length = 0 then 1 else 2)).1 (rst dg KL VL xs (if xs.length = 0 then 1 else 2)).2 ∧ Touch w w' g 0 5 ∧ New2 w ka' va'
set_option maxHeartbeats 20000000 in
set_option maxRecDepth 100000 in
/-- The document's update. -/
theorem rupdate_ok (g : Nat) (dg L c : Int) (ka va xa : Option Addr) (kc vc xn xc : Nat) (KL VL xs : List Int) (w : World) (k : Hid (Known dg)) (hs : Hid (RSp w g dg L c ka kc va vc KL VL)) (hR : Hid (RTab w)) (hx : Hid (View w (.slice xa xn xc) xs)) (hxl : Hid (xs.length = xn)) (hxb : xn ≤ 1048576) (hg : 4 ≤ g) (hxg : Hid (Apart (.slice xa xn xc) g 0 5)) :
    Calls Tryd.prog 31 #[.pointer (some ⟨g, 0, none⟩), .slice xa xn xc] w fun e w' => Hid (e = .returned (.tuple #[]) ∧ RUpd w w' g dg L c KL VL xs) := by
  obtain ⟨sz, HSZ⟩ : ∃ sz, Hid (sz = szOf dg) := ⟨_, rfl⟩
  have hsz : sz ≤ 64 := by rw [HSZ.out]; exact szOf_le k.out
  go_enter Tryd.func31, Tryd.ntmps31
  go_wp2
  go_loopw [4] (fun vm wr => ∃ q : Nat, ∃ (ka : Option Addr) (kc : Nat) (va : Option Addr) (vc : Nat), vm = .int .i64 (q : Nat) ∧ q ≤ 2 ∧ (q = 2 → xn ≠ 0) ∧ Hid (RSp wr g dg L c ka kc va vc (rst dg KL VL xs q).1 (rst dg KL VL xs q).2 ∧ Touch w wr g 0 5 ∧ (q ≠ 0 → New2 w ka va))) (fun vm _ => 2 - (intOf vm).toNat)
  case atStart => exact ⟨0, ka, kc, va, vc, rfl, by omega, by omega, hs.out, Touch.refl _ _ _ _, fun h => absurd rfl h⟩
  case round =>
    obtain ⟨q, ka1, kc1, va1, vc1, rfl, hq, hq2, HR⟩ := hrel
    by_cases hq0 : q = 0
    · subst hq0
      obtain ⟨KL1, HK1⟩ : ∃ X, Hid (X = (rst dg KL VL xs 0).1) := ⟨_, rfl⟩
      obtain ⟨VL1, HV1⟩ : ∃ X, Hid (X = (rst dg KL VL xs 0).2) := ⟨_, rfl⟩
      have HRr : Hid (RSp wr g dg L c ka1 kc1 va1 vc1 KL1 VL1 ∧ Touch w wr g 0 5) := by rw [HK1.out, HV1.out]; exact ⟨HR.out.1, HR.out.2.1⟩
      clear HR
      have c0 := HRr.out.1.c0
      have c3 := HRr.out.1.c3
      have c4 := HRr.out.1.c4
      rw [← HSZ.out] at c3 c4
      have hV := HRr.out.1.vV
      rw [← HSZ.out] at hV
      have HVl : Hid (VL1.length = sz) := by rw [HSZ.out]; exact HRr.out.1.lV
      have HV : Hid (View wr (.slice va1 sz vc1) VL1) := hV
      clear hV
      go_wp2_with (first | (at_builtin; go_must (refine wpList_append_view rfl (.tmp 17) (.tmp 21) rfl wr.heap.size 0 sz (.slice none 0 0) [] rfl (World.ownsRow_nil _ _ _ _) va1 sz vc1 rfl VL1 HV.out HVl.out (by omega) (by omega) (Nat.le_refl _) ?_)))
      intro v4 w4 hown4 hgrow4 hat4
      obtain ⟨a4, c5, rfl⟩ := owns_slice0 hown4
      have HB4 : Hid (Below wr.heap.size wr w4) := (Below.refl _ _).grown hgrow4 (Nat.le_refl _) (fun b hb => by cases hb)
      have HO4 : Hid (w4.ownsRow wr.heap.size 5 1 (.slice a4 sz c5) sz (cellsU8 VL1)) := (by simpa using hown4 : w4.ownsRow wr.heap.size 5 1 (.slice a4 sz c5) sz (cellsU8 VL1))
      clear hown4 hgrow4 hat4 c0 c3 c4
      have hBa : Below w4.heap.size w4 (w4.alloc (.cells #[.int .u8 0] 5)) := below_alloc1 _ _
      have HOa : Hid ((w4.alloc (.cells #[.int .u8 0] 5)).ownsRow wr.heap.size 5 1 (.slice a4 sz c5) sz (cellsU8 VL1)) := owns_kept HO4.out hBa
      have HBa : Hid (Below wr.heap.size wr (w4.alloc (.cells #[.int .u8 0] 5))) := HB4.out.trans (hBa.mono HB4.out.size)
      have HVa : Hid (View (w4.alloc (.cells #[.int .u8 0] 5)) (.slice (some ⟨w4.heap.size, 0, none⟩) 1 1) [0]) := ⟨_, 1, rfl, by simp, by simp [maxLen], (fun e => by cases e), .inr ⟨w4.heap.size, 0, rfl, fun j hj => by
        obtain rfl : j = 0 := by simp at hj; omega
        exact rangeAt_new w4 #[.int .u8 0] 5 0 _ rfl⟩⟩
      clear hBa
      go_wp2_with (first | (at_builtin; go_must (refine wpList_append_view rfl (.tmp 23) (.tmp 26) rfl wr.heap.size sz (sz + 1) (.slice a4 sz c5) VL1 rfl HOa.out (some ⟨w4.heap.size, 0, none⟩) 1 1 rfl [0] HVa.out rfl rfl (by omega) HBa.out.size ?_)))
      intro v6 w6 hown6 hgrow6 hat6
      obtain ⟨a6, c6, rfl⟩ := owns_slice0 hown6
      have HB6 : Hid (Below wr.heap.size wr w6) := HBa.out.grown hgrow6 HBa.out.size (fun b hb => (HOa.out.lt b hb).1)
      have HO6 : Hid (w6.ownsRow wr.heap.size 5 1 (.slice a6 (sz + 1) c6) (sz + 1) (cellsU8 (VL1 ++ [0]))) := hown6
      clear hown6 hgrow6 hat6 HOa HBa HVa HO4 HB4
      have HX6 : Hid (View w6 (.slice xa xn xc) xs) := (HRr.out.2.view hx.out hxg.out).kept fun b hb => HB6.out.block b hb
      go_wp2_with (first | (at_builtin; go_must (refine wpList_append_view rfl (.tmp 28) (.tmp 29) rfl wr.heap.size (sz + 1) (sz + 1 + xn) (.slice a6 (sz + 1) c6) (VL1 ++ [0]) rfl HO6.out xa xn xc rfl xs HX6.out hxl.out rfl (by omega) HB6.out.size ?_)))
      intro v7 w7 hown7 hgrow7 hat7
      obtain ⟨a7, c7, rfl⟩ := owns_slice0 hown7
      have HB7 : Hid (Below wr.heap.size wr w7) := HB6.out.grown hgrow7 HB6.out.size (fun b hb => (HO6.out.lt b hb).1)
      have HV7 : Hid (View w7 (.slice a7 (sz + 1 + xn) c7) (VL1 ++ (0 : Int) :: xs)) := by
        have q := viewOwns hown7 (by simp [HVl.out, hxl.out]; omega)
        have q2 : View w7 (.slice a7 (sz + 1 + xn) c7) (VL1 ++ (0 : Int) :: xs) := by simpa using q
        exact q2
      have HR7 : Hid (RSp w7 g dg L c ka1 kc1 va1 vc1 KL1 VL1) := HRr.out.1.below HB7.out
      clear hown7 hgrow7 hat7 HO6 HB6 HX6 HV
      obtain ⟨Z1, HZ1⟩ : ∃ Z, Hid (Z = hmac dg KL1 (VL1 ++ (0 : Int) :: xs)) := ⟨_, rfl⟩
      have HZ1l : Hid (Z1.length = sz) := by show _ = _; rw [HZ1.out, hmac_len k.out, HSZ.out]
      have HC7 : Hid (∀ u, Sm w7 u → Calls Tryd.prog 32 #[.int .i64 dg, .slice ka1 sz kc1, .slice a7 (sz + 1 + xn) c7] u fun e w' => Hid (∃ a8 c8, e = .returned (.slice a8 sz c8) ∧ View w' (.slice a8 sz c8) Z1 ∧ (∀ b off, a8 = some ⟨b, off, none⟩ → wr.heap.size ≤ b) ∧ Below wr.heap.size wr w')) := fun u hu => by
        have hbu := Below.ofSm HB7.out hu
        have q := rcode_walk dg ka1 sz kc1 a7 (sz + 1 + xn) c7 KL1 (VL1 ++ (0 : Int) :: xs) u k ((hR.out.touch HRr.out.2 hg).below hbu (by have := (hR.out.touch HRr.out.2 hg).size; omega)) (by show View _ _ _; rw [HSZ.out]; exact hu.view HR7.out.vK) (by show _ = _; rw [HSZ.out]; exact HR7.out.lK) (hu.view HV7.out) (by show _ = _; simp [HVl.out, hxl.out]; omega) (by omega) (by omega)
        rw [← HSZ.out, ← HZ1.out] at q
        refine q.mono ?_
        rintro e w' ⟨v', r1, r2, r3⟩
        obtain ⟨a8, c8, rfl⟩ := owns_slice0 r2
        exact ⟨a8, c8, r1, viewOwns r2 HZ1l.out, fun b off e => by have := (r2.lt b (by rw [e]; rfl)).1; have := hbu.size; omega, hbu.trans (r3.mono hbu.size)⟩
      have c0 := HR7.out.c0
      have c3 := HR7.out.c3
      rw [← HSZ.out] at c3
      go_upto_region 8 with fail
      go_region_with (go_at_call 32; refine (HC7.out _ ?_).mono ?_; exact ⟨rfl, rfl, rfl, rfl⟩; intro e8 w8 hh; obtain ⟨a8, c8, rfl, hv8, ha8, hb8⟩ := hh.out; have p3 : w8.cell? ⟨g, 3, none⟩ = some (.slice ka1 (szOf dg) kc1) := (HRr.out.1.below hb8).c3; have z3 : w8.frozen? ⟨g, 3, none⟩ = false := (by have := ((HRr.out.1.below hb8).there 3 (by omega)).2; simpa using this))
      all_goals
        have HR9 : Hid (RSp (w8.setCell ⟨g, 3, none⟩ (.slice a8 sz c8)) g dg L c a8 c8 va1 vc1 Z1 VL1 ∧ Touch w (w8.setCell ⟨g, 3, none⟩ (.slice a8 sz c8)) g 0 5) := by
          have q := (HRr.out.1.below hb8).setK a8 c8 Z1 (by rw [← HSZ.out]; exact hv8) (by rw [← HSZ.out]; exact HZ1l.out) (fun b off e => by have := ha8 b off e; have := HRr.out.1.lt; omega)
          rw [← HSZ.out] at q
          exact ⟨q, (HRr.out.2.trans ((Touch.refl wr g 0 5).below hb8 HRr.out.1.lt)).setCell 3 _ (by omega) (by omega)⟩
        have HN8 : Hid (∀ b off, a8 = some ⟨b, off, none⟩ → w.heap.size ≤ b) := fun b off e => Nat.le_trans HRr.out.2.size (ha8 b off e)
        generalize w8.setCell ⟨g, 3, none⟩ (.slice a8 sz c8) = w9 at HR9 ⊢
        clear hh hv8 ha8 hb8 p3 z3 c0 c3 HC7 HR7 HV7 HB7 HRr
        obtain ⟨Z2, HZ2⟩ : ∃ Z, Hid (Z = hmac dg Z1 VL1) := ⟨_, rfl⟩
        have HZ2l : Hid (Z2.length = sz) := by show _ = _; rw [HZ2.out, hmac_len k.out, HSZ.out]
        have HC9 : Hid (∀ u, Sm w9 u → Calls Tryd.prog 32 #[.int .i64 dg, .slice a8 sz c8, .slice va1 sz vc1] u fun e w' => Hid (∃ a0 c0, e = .returned (.slice a0 sz c0) ∧ View w' (.slice a0 sz c0) Z2 ∧ (∀ b off, a0 = some ⟨b, off, none⟩ → w9.heap.size ≤ b) ∧ Below w9.heap.size w9 w')) := fun u hu => by
          have hbu : Below w9.heap.size w9 u := Below.ofSm (Below.refl _ _) hu
          have q := rcode_walk dg a8 sz c8 va1 sz vc1 Z1 VL1 u k ((hR.out.touch HR9.out.2 hg).below hbu (by have := (hR.out.touch HR9.out.2 hg).size; omega)) (by show View _ _ _; have r := HR9.out.1.vK; rw [← HSZ.out] at r; exact hu.view r) HZ1l (by show View _ _ _; have r := HR9.out.1.vV; rw [← HSZ.out] at r; exact hu.view r) HVl (by omega) (by omega)
          rw [← HSZ.out, ← HZ2.out] at q
          refine q.mono ?_
          rintro e w' ⟨v', r1, r2, r3⟩
          obtain ⟨a0, c0, rfl⟩ := owns_slice0 r2
          exact ⟨a0, c0, r1, viewOwns r2 HZ2l.out, fun b off e => by have := (r2.lt b (by rw [e]; rfl)).1; have := hbu.size; omega, hbu.trans (r3.mono hbu.size)⟩
        have c0 := HR9.out.1.c0
        have c3 := HR9.out.1.c3
        have c4 := HR9.out.1.c4
        rw [← HSZ.out] at c3 c4
        go_upto_region 9 with fail
        go_region_with (go_at_call 32; refine (HC9.out _ ?_).mono ?_; exact ⟨rfl, rfl, rfl, rfl⟩; intro e10 w10 hh; obtain ⟨a10, c10, rfl, hv10, ha10, hb10⟩ := hh.out; have p4 : w10.cell? ⟨g, 4, none⟩ = some (.slice va1 (szOf dg) vc1) := (HR9.out.1.below hb10).c4; have z4 : w10.frozen? ⟨g, 4, none⟩ = false := (by have := ((HR9.out.1.below hb10).there 4 (by omega)).2; simpa using this))
        all_goals
          have HR11 : Hid (RSp (w10.setCell ⟨g, 4, none⟩ (.slice a10 sz c10)) g dg L c a8 c8 a10 c10 (rst dg KL VL xs (0 + 1)).1 (rst dg KL VL xs (0 + 1)).2 ∧ Touch w (w10.setCell ⟨g, 4, none⟩ (.slice a10 sz c10)) g 0 5) := by
            have q := (HR9.out.1.below hb10).setV a10 c10 Z2 (by rw [← HSZ.out]; exact hv10) (by rw [← HSZ.out]; exact HZ2l.out) (fun b off e => by have := ha10 b off e; have := HR9.out.1.lt; omega)
            rw [← HSZ.out] at q
            have e1 : (rst dg KL VL xs (0 + 1)).1 = Z1 := by rw [HZ1.out, HK1.out, HV1.out]; rfl
            have e2 : (rst dg KL VL xs (0 + 1)).2 = Z2 := by rw [HZ2.out, HZ1.out, HK1.out, HV1.out]; rfl
            rw [e1, e2]
            exact ⟨q, (HR9.out.2.trans ((Touch.refl w9 g 0 5).below hb10 HR9.out.1.lt)).setCell 4 _ (by omega) (by omega)⟩
          have HN11 : Hid (New2 w a8 a10) := ⟨HN8.out, fun b off e => Nat.le_trans HR9.out.2.size (ha10 b off e)⟩
          generalize w10.setCell ⟨g, 4, none⟩ (.slice a10 sz c10) = w11 at HR11 ⊢
          clear hh hv10 ha10 hb10 p4 z4 c0 c3 c4 HC9 HR9
          go_wp2
          go_roundw
          case rel => exact ⟨0 + 1, a8, c8, a10, c10, by go_num, by omega, by omega, HR11.out.1, HR11.out.2, fun _ => HN11.out⟩
          case measure => simp [intOf]
    by_cases hq1 : q = 1
    · subst hq1
      by_cases hx0 : xn = 0
      · have HE : Hid (RUpd w wr g dg L c KL VL xs) := by show RUpd _ _ _ _ _ _ _ _ _; unfold RUpd; rw [hxl.out, if_pos hx0]; exact ⟨_, _, _, _, HR.out.1, HR.out.2.1, HR.out.2.2 (by decide)⟩
        clear HR
        subst hx0
        go_wp2
        (try simp only [Exit.inBlock, Exit.then]); refine bodyPost_ret (results_none rfl _ _ _) rfl ?_
        exact ⟨rfl, HE.out⟩
      · have hx1 : (((xn : Nat) : Int) == 0) = false := by simp; exact hx0
        obtain ⟨KL1, HK1⟩ : ∃ X, Hid (X = (rst dg KL VL xs 1).1) := ⟨_, rfl⟩
        obtain ⟨VL1, HV1⟩ : ∃ X, Hid (X = (rst dg KL VL xs 1).2) := ⟨_, rfl⟩
        have HRr : Hid (RSp wr g dg L c ka1 kc1 va1 vc1 KL1 VL1 ∧ Touch w wr g 0 5) := by rw [HK1.out, HV1.out]; exact ⟨HR.out.1, HR.out.2.1⟩
        clear HR
        have c0 := HRr.out.1.c0
        have c3 := HRr.out.1.c3
        have c4 := HRr.out.1.c4
        rw [← HSZ.out] at c3 c4
        have hV := HRr.out.1.vV
        rw [← HSZ.out] at hV
        have HVl : Hid (VL1.length = sz) := by rw [HSZ.out]; exact HRr.out.1.lV
        have HV : Hid (View wr (.slice va1 sz vc1) VL1) := hV
        clear hV
        go_wp2_with (first | (at_builtin; go_must (refine wpList_append_view rfl (.tmp 17) (.tmp 21) rfl wr.heap.size 0 sz (.slice none 0 0) [] rfl (World.ownsRow_nil _ _ _ _) va1 sz vc1 rfl VL1 HV.out HVl.out (by omega) (by omega) (Nat.le_refl _) ?_)))
        intro v4 w4 hown4 hgrow4 hat4
        obtain ⟨a4, c5, rfl⟩ := owns_slice0 hown4
        have HB4 : Hid (Below wr.heap.size wr w4) := (Below.refl _ _).grown hgrow4 (Nat.le_refl _) (fun b hb => by cases hb)
        have HO4 : Hid (w4.ownsRow wr.heap.size 5 1 (.slice a4 sz c5) sz (cellsU8 VL1)) := (by simpa using hown4 : w4.ownsRow wr.heap.size 5 1 (.slice a4 sz c5) sz (cellsU8 VL1))
        clear hown4 hgrow4 hat4 c0 c3 c4
        have hBa : Below w4.heap.size w4 (w4.alloc (.cells #[.int .u8 1] 5)) := below_alloc1 _ _
        have HOa : Hid ((w4.alloc (.cells #[.int .u8 1] 5)).ownsRow wr.heap.size 5 1 (.slice a4 sz c5) sz (cellsU8 VL1)) := owns_kept HO4.out hBa
        have HBa : Hid (Below wr.heap.size wr (w4.alloc (.cells #[.int .u8 1] 5))) := HB4.out.trans (hBa.mono HB4.out.size)
        have HVa : Hid (View (w4.alloc (.cells #[.int .u8 1] 5)) (.slice (some ⟨w4.heap.size, 0, none⟩) 1 1) [1]) := ⟨_, 1, rfl, by simp, by simp [maxLen], (fun e => by cases e), .inr ⟨w4.heap.size, 0, rfl, fun j hj => by
          obtain rfl : j = 0 := by simp at hj; omega
          exact rangeAt_new w4 #[.int .u8 1] 5 0 _ rfl⟩⟩
        clear hBa
        go_wp2_with (first | (at_builtin; go_must (refine wpList_append_view rfl (.tmp 23) (.tmp 26) rfl wr.heap.size sz (sz + 1) (.slice a4 sz c5) VL1 rfl HOa.out (some ⟨w4.heap.size, 0, none⟩) 1 1 rfl [1] HVa.out rfl rfl (by omega) HBa.out.size ?_)))
        intro v6 w6 hown6 hgrow6 hat6
        obtain ⟨a6, c6, rfl⟩ := owns_slice0 hown6
        have HB6 : Hid (Below wr.heap.size wr w6) := HBa.out.grown hgrow6 HBa.out.size (fun b hb => (HOa.out.lt b hb).1)
        have HO6 : Hid (w6.ownsRow wr.heap.size 5 1 (.slice a6 (sz + 1) c6) (sz + 1) (cellsU8 (VL1 ++ [1]))) := hown6
        clear hown6 hgrow6 hat6 HOa HBa HVa HO4 HB4
        have HX6 : Hid (View w6 (.slice xa xn xc) xs) := (HRr.out.2.view hx.out hxg.out).kept fun b hb => HB6.out.block b hb
        go_wp2_with (first | (at_builtin; go_must (refine wpList_append_view rfl (.tmp 28) (.tmp 29) rfl wr.heap.size (sz + 1) (sz + 1 + xn) (.slice a6 (sz + 1) c6) (VL1 ++ [1]) rfl HO6.out xa xn xc rfl xs HX6.out hxl.out rfl (by omega) HB6.out.size ?_)))
        intro v7 w7 hown7 hgrow7 hat7
        obtain ⟨a7, c7, rfl⟩ := owns_slice0 hown7
        have HB7 : Hid (Below wr.heap.size wr w7) := HB6.out.grown hgrow7 HB6.out.size (fun b hb => (HO6.out.lt b hb).1)
        have HV7 : Hid (View w7 (.slice a7 (sz + 1 + xn) c7) (VL1 ++ (1 : Int) :: xs)) := by
          have q := viewOwns hown7 (by simp [HVl.out, hxl.out]; omega)
          have q2 : View w7 (.slice a7 (sz + 1 + xn) c7) (VL1 ++ (1 : Int) :: xs) := by simpa using q
          exact q2
        have HR7 : Hid (RSp w7 g dg L c ka1 kc1 va1 vc1 KL1 VL1) := HRr.out.1.below HB7.out
        clear hown7 hgrow7 hat7 HO6 HB6 HX6 HV
        obtain ⟨Z1, HZ1⟩ : ∃ Z, Hid (Z = hmac dg KL1 (VL1 ++ (1 : Int) :: xs)) := ⟨_, rfl⟩
        have HZ1l : Hid (Z1.length = sz) := by show _ = _; rw [HZ1.out, hmac_len k.out, HSZ.out]
        have HC7 : Hid (∀ u, Sm w7 u → Calls Tryd.prog 32 #[.int .i64 dg, .slice ka1 sz kc1, .slice a7 (sz + 1 + xn) c7] u fun e w' => Hid (∃ a8 c8, e = .returned (.slice a8 sz c8) ∧ View w' (.slice a8 sz c8) Z1 ∧ (∀ b off, a8 = some ⟨b, off, none⟩ → wr.heap.size ≤ b) ∧ Below wr.heap.size wr w')) := fun u hu => by
          have hbu := Below.ofSm HB7.out hu
          have q := rcode_walk dg ka1 sz kc1 a7 (sz + 1 + xn) c7 KL1 (VL1 ++ (1 : Int) :: xs) u k ((hR.out.touch HRr.out.2 hg).below hbu (by have := (hR.out.touch HRr.out.2 hg).size; omega)) (by show View _ _ _; rw [HSZ.out]; exact hu.view HR7.out.vK) (by show _ = _; rw [HSZ.out]; exact HR7.out.lK) (hu.view HV7.out) (by show _ = _; simp [HVl.out, hxl.out]; omega) (by omega) (by omega)
          rw [← HSZ.out, ← HZ1.out] at q
          refine q.mono ?_
          rintro e w' ⟨v', r1, r2, r3⟩
          obtain ⟨a8, c8, rfl⟩ := owns_slice0 r2
          exact ⟨a8, c8, r1, viewOwns r2 HZ1l.out, fun b off e => by have := (r2.lt b (by rw [e]; rfl)).1; have := hbu.size; omega, hbu.trans (r3.mono hbu.size)⟩
        have c0 := HR7.out.c0
        have c3 := HR7.out.c3
        rw [← HSZ.out] at c3
        go_upto_region 8 with fail
        go_region_with (go_at_call 32; refine (HC7.out _ ?_).mono ?_; exact ⟨rfl, rfl, rfl, rfl⟩; intro e8 w8 hh; obtain ⟨a8, c8, rfl, hv8, ha8, hb8⟩ := hh.out; have p3 : w8.cell? ⟨g, 3, none⟩ = some (.slice ka1 (szOf dg) kc1) := (HRr.out.1.below hb8).c3; have z3 : w8.frozen? ⟨g, 3, none⟩ = false := (by have := ((HRr.out.1.below hb8).there 3 (by omega)).2; simpa using this))
        all_goals
          have HR9 : Hid (RSp (w8.setCell ⟨g, 3, none⟩ (.slice a8 sz c8)) g dg L c a8 c8 va1 vc1 Z1 VL1 ∧ Touch w (w8.setCell ⟨g, 3, none⟩ (.slice a8 sz c8)) g 0 5) := by
            have q := (HRr.out.1.below hb8).setK a8 c8 Z1 (by rw [← HSZ.out]; exact hv8) (by rw [← HSZ.out]; exact HZ1l.out) (fun b off e => by have := ha8 b off e; have := HRr.out.1.lt; omega)
            rw [← HSZ.out] at q
            exact ⟨q, (HRr.out.2.trans ((Touch.refl wr g 0 5).below hb8 HRr.out.1.lt)).setCell 3 _ (by omega) (by omega)⟩
          have HN8 : Hid (∀ b off, a8 = some ⟨b, off, none⟩ → w.heap.size ≤ b) := fun b off e => Nat.le_trans HRr.out.2.size (ha8 b off e)
          generalize w8.setCell ⟨g, 3, none⟩ (.slice a8 sz c8) = w9 at HR9 ⊢
          clear hh hv8 ha8 hb8 p3 z3 c0 c3 HC7 HR7 HV7 HB7 HRr
          obtain ⟨Z2, HZ2⟩ : ∃ Z, Hid (Z = hmac dg Z1 VL1) := ⟨_, rfl⟩
          have HZ2l : Hid (Z2.length = sz) := by show _ = _; rw [HZ2.out, hmac_len k.out, HSZ.out]
          have HC9 : Hid (∀ u, Sm w9 u → Calls Tryd.prog 32 #[.int .i64 dg, .slice a8 sz c8, .slice va1 sz vc1] u fun e w' => Hid (∃ a0 c0, e = .returned (.slice a0 sz c0) ∧ View w' (.slice a0 sz c0) Z2 ∧ (∀ b off, a0 = some ⟨b, off, none⟩ → w9.heap.size ≤ b) ∧ Below w9.heap.size w9 w')) := fun u hu => by
            have hbu : Below w9.heap.size w9 u := Below.ofSm (Below.refl _ _) hu
            have q := rcode_walk dg a8 sz c8 va1 sz vc1 Z1 VL1 u k ((hR.out.touch HR9.out.2 hg).below hbu (by have := (hR.out.touch HR9.out.2 hg).size; omega)) (by show View _ _ _; have r := HR9.out.1.vK; rw [← HSZ.out] at r; exact hu.view r) HZ1l (by show View _ _ _; have r := HR9.out.1.vV; rw [← HSZ.out] at r; exact hu.view r) HVl (by omega) (by omega)
            rw [← HSZ.out, ← HZ2.out] at q
            refine q.mono ?_
            rintro e w' ⟨v', r1, r2, r3⟩
            obtain ⟨a0, c0, rfl⟩ := owns_slice0 r2
            exact ⟨a0, c0, r1, viewOwns r2 HZ2l.out, fun b off e => by have := (r2.lt b (by rw [e]; rfl)).1; have := hbu.size; omega, hbu.trans (r3.mono hbu.size)⟩
          have c0 := HR9.out.1.c0
          have c3 := HR9.out.1.c3
          have c4 := HR9.out.1.c4
          rw [← HSZ.out] at c3 c4
          go_upto_region 9 with fail
          go_region_with (go_at_call 32; refine (HC9.out _ ?_).mono ?_; exact ⟨rfl, rfl, rfl, rfl⟩; intro e10 w10 hh; obtain ⟨a10, c10, rfl, hv10, ha10, hb10⟩ := hh.out; have p4 : w10.cell? ⟨g, 4, none⟩ = some (.slice va1 (szOf dg) vc1) := (HR9.out.1.below hb10).c4; have z4 : w10.frozen? ⟨g, 4, none⟩ = false := (by have := ((HR9.out.1.below hb10).there 4 (by omega)).2; simpa using this))
          all_goals
            have HR11 : Hid (RSp (w10.setCell ⟨g, 4, none⟩ (.slice a10 sz c10)) g dg L c a8 c8 a10 c10 (rst dg KL VL xs (1 + 1)).1 (rst dg KL VL xs (1 + 1)).2 ∧ Touch w (w10.setCell ⟨g, 4, none⟩ (.slice a10 sz c10)) g 0 5) := by
              have q := (HR9.out.1.below hb10).setV a10 c10 Z2 (by rw [← HSZ.out]; exact hv10) (by rw [← HSZ.out]; exact HZ2l.out) (fun b off e => by have := ha10 b off e; have := HR9.out.1.lt; omega)
              rw [← HSZ.out] at q
              have e1 : (rst dg KL VL xs (1 + 1)).1 = Z1 := by rw [HZ1.out, HK1.out, HV1.out]; rfl
              have e2 : (rst dg KL VL xs (1 + 1)).2 = Z2 := by rw [HZ2.out, HZ1.out, HK1.out, HV1.out]; rfl
              rw [e1, e2]
              exact ⟨q, (HR9.out.2.trans ((Touch.refl w9 g 0 5).below hb10 HR9.out.1.lt)).setCell 4 _ (by omega) (by omega)⟩
            have HN11 : Hid (New2 w a8 a10) := ⟨HN8.out, fun b off e => Nat.le_trans HR9.out.2.size (ha10 b off e)⟩
            generalize w10.setCell ⟨g, 4, none⟩ (.slice a10 sz c10) = w11 at HR11 ⊢
            clear hh hv10 ha10 hb10 p4 z4 c0 c3 c4 HC9 HR9
            go_wp2
            go_roundw
            case rel => exact ⟨1 + 1, a8, c8, a10, c10, by go_num, by omega, by omega, HR11.out.1, HR11.out.2, fun _ => HN11.out⟩
            case measure => simp [intOf]
    · obtain rfl : q = 2 := by omega
      have hx0 := hq2 rfl
      have HE : Hid (RUpd w wr g dg L c KL VL xs) := by show RUpd _ _ _ _ _ _ _ _ _; unfold RUpd; rw [hxl.out, if_neg hx0]; exact ⟨_, _, _, _, HR.out.1, HR.out.2.1, HR.out.2.2 (by decide)⟩
      clear HR
      go_wp2
      go_end0
      exact ⟨rfl, HE.out⟩
end Go.Proofs.YtkeklmkaleomkaaDoor
namespace Go.Proofs.YtkeklmkaleomkaaDoor
open Go.RowKit
set_option linter.unusedVariables false
set_option linter.unusedSimpArgs false
theorem fL_over (f : Nat → Int) (z : List Int) (n : Nat) (h : z.length = n) : fL (over f z) n = z := by
  refine ext_getD (n := n) (fL_length _ _) h (fun j hj => ?_)
  rw [fL_get _ _ _ hj, over_lt (by omega)]
theorem fL_mixK {dg : Int} (k : Known dg) (K V : Nat → Int) (mk : Int) (ys : List Int) : fL (mixK dg K V mk ys) (szOf dg) = hmac dg (fL K (szOf dg)) (fL V (szOf dg) ++ (mk :: ys)) := fL_over _ _ _ (hmac_len k _ _)
theorem fL_turnV {dg : Int} (k : Known dg) (K V : Nat → Int) : fL (turnV dg K V) (szOf dg) = hmac dg (fL K (szOf dg)) (fL V (szOf dg)) := fL_over _ _ _ (hmac_len k _ _)
/-- The document's update and the program's. -/
theorem upd_rst {dg : Int} (k : Known dg) (K V : Nat → Int) (xs : List Int) :
    rst dg (fL K (szOf dg)) (fL V (szOf dg)) xs (if xs.length = 0 then 1 else 2) = (fL (updK dg K V xs) (szOf dg), fL (updV dg K V xs) (szOf dg)) := by
  by_cases h : xs = []
  · subst h
    simp only [List.length_nil, if_true, rst, updK, updV, if_pos, fL_mixK k, fL_turnV k]
    rfl
  · have h2 : ¬ xs.length = 0 := by simpa using h
    simp only [if_neg h2, rst, updK, updV, if_neg h, fL_mixK k, fL_turnV k]
    rfl
/-- The document's V behind j steps of a draw. -/
def rvq (dg : Int) (KL VL : List Int) : Nat → List Int
  | 0 => VL
  | j + 1 => hmac dg KL (rvq dg KL VL j)
theorem rvq_eq {dg : Int} (k : Known dg) (K V : Nat → Int) (j : Nat) : rvq dg (fL K (szOf dg)) (fL V (szOf dg)) j = fL (vq dg K V j) (szOf dg) := by
  induction j with
  | zero => rfl
  | succ j ih => simp only [rvq, vq, fL_turnV k, ih]
theorem rvq_len {dg : Int} (k : Known dg) (KL VL : List Int) (h : VL.length = szOf dg) (j : Nat) : (rvq dg KL VL j).length = szOf dg := by
  cases j with
  | zero => exact h
  | succ j => exact hmac_len k _ _
/-- What was drawn behind j steps. -/
def rout (dg : Int) (KL VL : List Int) : Nat → List Int
  | 0 => []
  | j + 1 => rout dg KL VL j ++ rvq dg KL VL (j + 1)
theorem rout_len {dg : Int} (k : Known dg) (KL VL : List Int) (h : VL.length = szOf dg) (j : Nat) : (rout dg KL VL j).length = j * szOf dg := by
  induction j with
  | zero => simp [rout]
  | succ j ih => rw [rout, List.length_append, ih, rvq_len k _ _ h, Nat.succ_mul]
theorem rout_eq {dg : Int} (k : Known dg) (K V : Nat → Int) (j : Nat) : rout dg (fL K (szOf dg)) (fL V (szOf dg)) j = fL (gv dg K V) (j * szOf dg) := by
  induction j with
  | zero => simp [rout, fL]
  | succ j ih =>
    refine ext_getD (n := (j + 1) * szOf dg) (rout_len k _ _ (fL_length _ _) _) (fL_length _ _) (fun i hi => ?_)
    rw [fL_get _ _ _ hi, rout, ih, List.getD_eq_getElem?_getD]
    by_cases h : i < j * szOf dg
    · rw [List.getElem?_append_left (by rw [fL_length]; exact h), ← List.getD_eq_getElem?_getD, fL_get _ _ _ h]
    · obtain ⟨r, rfl⟩ : ∃ r, i = j * szOf dg + r := ⟨i - j * szOf dg, by omega⟩
      have hr : r < szOf dg := by rw [Nat.succ_mul] at hi; omega
      rw [List.getElem?_append_right (by rw [fL_length]; omega), fL_length, Nat.add_sub_cancel_left, ← List.getD_eq_getElem?_getD, rvq_eq k, fL_get _ _ _ hr, gv_at k _ _ _ _ hr]
/-- The steps of a draw of n bytes. -/
theorem rout_take {dg : Int} (k : Known dg) (K V : Nat → Int) (n j : Nat) (h : n ≤ j * szOf dg) : (rout dg (fL K (szOf dg)) (fL V (szOf dg)) j).take n = fL (gv dg K V) n := by
  rw [rout_eq k, fL_take _ _ _ h]
theorem fL_zeros (n : Nat) : fL (fun _ => 0) n = List.replicate n 0 := by
  refine ext_getD (n := n) (fL_length _ _) (by simp) (fun j hj => ?_)
  rw [fL_get _ _ _ hj]; simp [List.getD, hj]
theorem fL_ones (n : Nat) : fL (ones n) n = List.replicate n 1 := by
  refine ext_getD (n := n) (fL_length _ _) (by simp) (fun j hj => ?_)
  rw [fL_get _ _ _ hj]; simp [List.getD, hj, ones]
end Go.Proofs.YtkeklmkaleomkaaDoor
namespace Go.Proofs.YtkeklmkaleomkaaDoor
open Go.RowKit
set_option linter.unusedVariables false
set_option linter.unusedSimpArgs false
theorem owns_touch {w w' : World} {B n e s g o m : Nat} {v : Value} {xs : List Value} (h : w.ownsRow B e s v n xs) (t : Touch w w' g o m) (hg : g < B) : w'.ownsRow B e s v n xs := by
  obtain ⟨h1, h2⟩ := h
  refine ⟨h1, ?_⟩
  rcases h2 with h2 | ⟨b, c, cur, e', q1, q2, q⟩
  · exact .inl h2
  · refine .inr ⟨b, c, cur, e', q1, ?_, q⟩
    rw [t.block b (Array.getElem?_eq_some_iff.1 q2).1 (by omega)]
    exact q2
theorem View.blk' {w v : World} {a : Option Addr} {n c : Nat} {zs : List Int} (h : View w (.slice a n c) zs) (hb : ∀ b off, a = some ⟨b, off, none⟩ → v.heap[b]? = w.heap[b]?) : View v (.slice a n c) zs := by
  obtain ⟨a', c', e, h1, h2, h3, h4⟩ := h
  injection e with e1 e2 e3
  subst e1 e2 e3
  refine ⟨a, c, rfl, h1, h2, h3, ?_⟩
  rcases h4 with h4 | ⟨b, off, e4, hc⟩
  · exact .inl h4
  · refine .inr ⟨b, off, e4, fun i hi => ?_⟩
    rw [World.cell?_of_block (a := ⟨b, off + i, none⟩) (hb b off e4)]
    exact hc i hi
/-- The document's spring while its V is made. -/
structure NAt (u : World) (g : Nat) (h L : Int) (ka : Option Addr) (sz kc i : Nat) (va : Option Addr) (vc : Nat) : Prop where
  c0 : u.cell? ⟨g, 0, none⟩ = some (.int .i64 h)
  c1 : u.cell? ⟨g, 1, none⟩ = some (.int .i64 L)
  c2 : u.cell? ⟨g, 2, none⟩ = some (.int .i64 0)
  c3 : u.cell? ⟨g, 3, none⟩ = some (.slice ka sz kc)
  c4 : u.cell? ⟨g, 4, none⟩ = some (.slice va i vc)
  there : u.there g 0 5
  own : u.ownsRow (g + 1) 5 1 (.slice va i vc) i (cellsU8 (List.replicate i 1))
theorem NAt.step {u u' : World} {g : Nat} {h L : Int} {ka va xa : Option Addr} {sz kc i vc xc : Nat} (s : NAt u g h L ka sz kc i va vc) (hb : u'.heap[g]? = u.heap[g]?) (ho : u'.ownsRow (g + 1) 5 1 (.slice xa (i + 1) xc) (i + 1) (cellsU8 (List.replicate (i + 1) 1))) :
    NAt (u'.setCell ⟨g, 4, none⟩ (.slice xa (i + 1) xc)) g h L ka sz kc (i + 1) xa xc := by
  have hc : ∀ j, u'.cell? ⟨g, j, none⟩ = u.cell? ⟨g, j, none⟩ := fun j => World.cell?_of_block (a := ⟨g, j, none⟩) hb
  have hf : ∀ j, u'.frozen? ⟨g, j, none⟩ = u.frozen? ⟨g, j, none⟩ := fun j => World.frozen?_of_block (a := ⟨g, j, none⟩) hb
  have ht : u'.there g 0 5 := fun j hj => by rw [hc, hf]; exact s.there j hj
  have out : ∀ j, j ≠ 4 → (u'.setCell ⟨g, 4, none⟩ (.slice xa (i + 1) xc)).cell? ⟨g, j, none⟩ = u'.cell? ⟨g, j, none⟩ := fun j hj => World.cell?_setCell_other _ _ _ _ (by intro q; injection q with _ q2; omega)
  have t : Touch u' (u'.setCell ⟨g, 4, none⟩ (.slice xa (i + 1) xc)) g 0 5 := (Touch.refl u' g 0 5).setCell 4 _ (by omega) (by omega)
  exact ⟨by rw [out 0 (by omega), hc]; exact s.c0, by rw [out 1 (by omega), hc]; exact s.c1, by rw [out 2 (by omega), hc]; exact s.c2, by rw [out 3 (by omega), hc]; exact s.c3, World.cell?_setCell_same' _ _ _ (by rw [hc, s.c4]; rfl), World.there_setCells ht g 4 [.slice xa (i + 1) xc], owns_touch ho t (by omega)⟩
theorem pv3_alloc {u : World} (t : TypeId) (x y z : Value) (E N P : List Int) (hx : View u x E) (hy : View u y N) (hz : View u z P) : PV (u.alloc (.cells #[x, y, z] t)) (.slice (some ⟨u.heap.size, 0, none⟩) 3 3) [x, y, z] [E, N, P] := by
  refine ⟨_, 3, rfl, by simp, by simp [maxLen], rfl, fun i v hv => ?_, .inr ⟨u.heap.size, 0, rfl, fun i v hv => ?_⟩⟩
  · have hi : i < 3 := by have := (List.getElem?_eq_some_iff.1 hv).1; simpa using this
    match i, hi with
    | 0, _ => cases hv; exact hx.kept (fun q hq => Below.heap_alloc u _ q hq)
    | 1, _ => cases hv; exact hy.kept (fun q hq => Below.heap_alloc u _ q hq)
    | 2, _ => cases hv; exact hz.kept (fun q hq => Below.heap_alloc u _ q hq)
  · exact rangeAt_new u #[x, y, z] t i v hv
/-- What New leaves. -/
def RNewP (w w' : World) (e : Ending) (h L : Int) (xs : List Int) : Prop := ∃ g ka kc va vc, e = .returned (.tuple #[.pointer (some ⟨g, 0, none⟩), .int .i64 0]) ∧ w.heap.size ≤ g ∧ RSp w' g h L 0 ka kc va vc (fL (updK h (fun _ => 0) (ones (szOf h)) xs) (szOf h)) (fL (updV h (fun _ => 0) (ones (szOf h)) xs) (szOf h)) ∧ New2 w ka va ∧ Below w.heap.size w w'
set_option maxHeartbeats 3200000 in
set_option maxRecDepth 100000 in
/-- cofferref06.New, of what must be taken. -/
theorem rnew_ok (h L : Int) (ea na pa : Option Addr) (en ec nn nc pn pc : Nat) (E N P : List Int) (w : World) (k : Hid (Known h)) (hR : Hid (RTab w)) (hL1 : 1 ≤ L) (hL2 : L ≤ 16777216) (he : Hid (View w (.slice ea en ec) E)) (hel : Hid (E.length = en)) (hn : Hid (View w (.slice na nn nc) N)) (hnl : Hid (N.length = nn)) (hp : Hid (View w (.slice pa pn pc) P)) (hpl : Hid (P.length = pn)) (he1 : 16 ≤ en) (he2 : en ≤ 65536) (hn2 : nn ≤ 65536) (hp2 : pn ≤ 65536) (hw4 : 4 ≤ w.heap.size) :
    Calls Tryd.prog 28 #[.int .i64 h, .int .i64 L, .slice ea en ec, .slice na nn nc, .slice pa pn pc] w fun e w' => Hid (RNewP w w' e h L (E ++ (N ++ P))) := by
  obtain ⟨sz, HSZ⟩ : ∃ n : Nat, Hid (n = szOf h) := ⟨_, (show _ = _ from rfl)⟩
  have hsz : 1 ≤ sz ∧ sz ≤ 64 := by rw [HSZ.out]; exact szOf_pos k.out
  have hR4 := hR.out.size
  obtain ⟨i0, hi0, hz0, hz1, hz2⟩ := info_parts Tryd.info5
  have H42 : Hid (Calls Tryd.prog 42 #[.int .i64 h] w fun e w' => e = .returned (.int .i64 (sz : Nat)) ∧ w' = w) := by
    have q := rsize_ok h k.out w
    rw [← HSZ.out] at q
    exact q
  have q0 : (((sz : Nat) : Int) == 0) = false := by simp; omega
  have q1 : decide (L < 1) = false := by simp; omega
  have q2 : decide (16777216 < L) = false := by simp; omega
  have q5 : decide (((en : Nat) : Int) < 16) = false := by simp; omega
  have q6 : decide ((65536 : Int) < (en : Nat)) = false := by simp; omega
  have q3 : decide ((65536 : Int) < (nn : Nat)) = false := by simp; omega
  have q4 : decide ((65536 : Int) < (pn : Nat)) = false := by simp; omega
  go_enter Tryd.func28, Tryd.ntmps28
  go_upto_region 10 with (go_at_call 42; refine H42.out.mono ?_; rintro e1 w1 ⟨rfl, hw1⟩; obtain rfl := hw1.symm)
  clear H42
  go_upto_region 11 with (first
    | (at_make; go_must (refine wpList_make_full _ rfl _ _ 22 rfl w.heap.size 5 i0 (.int .u8 0) 1 Tryd.underlying22 hi0 hz0 hz1 .i64 .i64 (sz : Nat) (sz : Nat) sz rfl rfl rfl rfl ?_ ?_ ?_ ?_); rw [hz2]; omega; unfold maxLen; omega; exact Nat.le_refl _; intro w1 hown hgrow)
    | fail)
  have hb1 : Below w.heap.size w w1 := (Below.refl _ _).grown hgrow (Nat.le_refl _) (by intro k hk; cases hk)
  obtain ⟨g, hg⟩ : ∃ g, g = w1.heap.size := ⟨_, rfl⟩
  have hkg : w.heap.size < g := by have := (hown.lt w.heap.size rfl).2; omega
  have HK1 : Hid (View w1 (.slice (some ⟨w.heap.size, 0, none⟩) sz sz) (List.replicate sz 0)) := by
    refine ⟨_, sz, by simp, by simp, by simp [maxLen]; omega, (fun e => by cases e), .inr ⟨w.heap.size, 0, rfl, fun j hj => ?_⟩⟩
    have hj' : j < sz := by simpa using hj
    rw [Nat.zero_add, hown.cellAt j (by omega)]
    have e0 : (List.replicate sz (0 : Int)).getD j 0 = 0 := by simp [List.getD, hj']
    rw [e0, Nat.mul_one]
    exact made_get sz j hj'
  rw [← hg]
  have hba := below_alloc1 w1 (.cells #[.int .i64 h, .int .i64 L, .int .i64 0, .slice (some ⟨w.heap.size, 0, none⟩) sz sz, .slice none 0 0] 73)
  have hr2 := rangeAt_new w1 #[.int .i64 h, .int .i64 L, .int .i64 0, .slice (some ⟨w.heap.size, 0, none⟩) sz sz, .slice none 0 0] 73
  have ht2 := there_new w1 #[.int .i64 h, .int .i64 L, .int .i64 0, .slice (some ⟨w.heap.size, 0, none⟩) sz sz, .slice none 0 0] 73 5 (Nat.le_refl _)
  have hs2 : (w1.alloc (.cells #[.int .i64 h, .int .i64 L, .int .i64 0, .slice (some ⟨w.heap.size, 0, none⟩) sz sz, .slice none 0 0] 73)).heap.size = g + 1 := by rw [size_alloc1, hg]
  generalize (w1.alloc (.cells #[.int .i64 h, .int .i64 L, .int .i64 0, .slice (some ⟨w.heap.size, 0, none⟩) sz sz, .slice none 0 0] 73)) = w2 at hba hr2 ht2 hs2 ⊢
  rw [← hg] at hba hr2 ht2
  have HB2 : Hid (Below w.heap.size w w2 ∧ w.heap.size ≤ g) := ⟨hb1.trans (hba.mono (by omega)), by omega⟩
  have HK2 : Hid (View w2 (.slice (some ⟨w.heap.size, 0, none⟩) sz sz) (List.replicate sz 0)) := HK1.out.kept fun q hq => hba.block q (by omega)
  have HN2 : Hid (NAt w2 g h L (some ⟨w.heap.size, 0, none⟩) sz sz 0 none 0) := ⟨by simpa using hr2 0 _ rfl, by simpa using hr2 1 _ rfl, by simpa using hr2 2 _ rfl, by simpa using hr2 3 _ rfl, by simpa using hr2 4 _ rfl, ht2, World.ownsRow_nil _ _ _ _⟩
  clear hown hgrow hb1 HK1 hba hr2 ht2 hg
  go_wp2
  go_loopw [14] (fun vi wr => ∃ i vc : Nat, ∃ va : Option Addr, i ≤ sz ∧ vi = .int .i64 (i : Nat) ∧ g + 1 ≤ wr.heap.size ∧ Hid (NAt wr g h L (some ⟨w.heap.size, 0, none⟩) sz sz i va vc) ∧ Hid (Below g w2 wr)) (fun vi _ => sz - (intOf vi).toNat)
  case atStart => exact ⟨0, 0, none, by omega, rfl, by omega, HN2.out, Below.refl _ _⟩
  case round =>
    obtain ⟨i, vc, va, hi, rfl, hsr, HN, HB⟩ := hrel
    clear HN2
    by_cases hlt : i < sz
    · have g4 : wr.cell? ⟨g, 4, none⟩ = some (.slice va i vc) := HN.out.c4
      have hBa : Below wr.heap.size wr (wr.alloc (.cells #[.int .u8 1] 5)) := below_alloc1 _ _
      have HOa : Hid ((wr.alloc (.cells #[.int .u8 1] 5)).ownsRow (g + 1) 5 1 (.slice va i vc) i (cellsU8 (List.replicate i 1))) := owns_kept HN.out.own hBa
      have HVa : Hid (View (wr.alloc (.cells #[.int .u8 1] 5)) (.slice (some ⟨wr.heap.size, 0, none⟩) 1 1) [1]) := ⟨_, 1, rfl, by simp, by simp [maxLen], (fun e => by cases e), .inr ⟨wr.heap.size, 0, rfl, fun j hj => by
        obtain rfl : j = 0 := by simp at hj; omega
        exact rangeAt_new wr #[.int .u8 1] 5 0 _ rfl⟩⟩
      have HBa : Hid (Below (g + 1) wr (wr.alloc (.cells #[.int .u8 1] 5))) := hBa.mono hsr
      clear hBa
      go_wp2_with (first | (at_builtin; go_must (refine wpList_append_view rfl (.tmp 61) (.tmp 62) rfl (g + 1) i (i + 1) (.slice va i vc) (List.replicate i 1) rfl HOa.out (some ⟨wr.heap.size, 0, none⟩) 1 1 rfl [1] HVa.out rfl rfl (by omega) (Nat.le_trans hsr (by simp)) ?_)))
      intro v6 w6 hown6 hgrow6 hat6
      obtain ⟨a6, c6, rfl⟩ := owns_slice0 hown6
      have HB6 : Hid (Below (g + 1) wr w6) := HBa.out.grown hgrow6 (Nat.le_trans hsr HBa.out.size) (fun b hb => (HOa.out.lt b hb).1)
      have HO6 : Hid (w6.ownsRow (g + 1) 5 1 (.slice a6 (i + 1) c6) (i + 1) (cellsU8 (List.replicate (i + 1) 1))) := by
        show World.ownsRow _ _ _ _ _ _ _
        rw [List.replicate_succ']
        exact hown6
      clear hown6 hgrow6 hat6 HOa HVa HBa
      have p4 : w6.cell? ⟨g, 4, none⟩ = some (.slice va i vc) := by rw [World.cell?_of_block (a := ⟨g, 4, none⟩) (HB6.out.block g (by omega))]; exact g4
      have z4 : w6.frozen? ⟨g, 4, none⟩ = false := by rw [World.frozen?_of_block (a := ⟨g, 4, none⟩) (HB6.out.block g (by omega))]; have := (HN.out.there 4 (by omega)).2; simpa using this
      have HN7 : Hid (NAt (w6.setCell ⟨g, 4, none⟩ (.slice a6 (i + 1) c6)) g h L (some ⟨w.heap.size, 0, none⟩) sz sz (i + 1) a6 c6) := HN.out.step (HB6.out.block g (by omega)) HO6.out
      have HB7 : Hid (Below g w2 (w6.setCell ⟨g, 4, none⟩ (.slice a6 (i + 1) c6))) := (HB.out.trans (HB6.out.mono (by omega))).setCell (p := ⟨g, 4, none⟩) (Nat.le_refl _) _
      have hs7 : g + 1 ≤ (w6.setCell ⟨g, 4, none⟩ (.slice a6 (i + 1) c6)).heap.size := by simp; exact Nat.le_trans hsr HB6.out.size
      go_wp2
      go_roundw
      case rel => exact ⟨i + 1, c6, a6, by omega, by go_num, hs7, HN7.out, HB7.out⟩
      case measure => simp [intOf]; omega
    · obtain rfl : i = sz := by omega
      have HS : Hid (RSp wr g h L 0 (some ⟨w.heap.size, 0, none⟩) i va vc (fL (fun _ => 0) (szOf h)) (fL (ones (szOf h)) (szOf h))) := by
        show RSp _ _ _ _ _ _ _ _ _ _ _
        rw [fL_zeros, fL_ones, ← HSZ.out]
        refine ⟨HN.out.c0, HN.out.c1, HN.out.c2, by rw [← HSZ.out]; exact HN.out.c3, by rw [← HSZ.out]; exact HN.out.c4, HN.out.there, ?_, by rw [← HSZ.out]; simp, ?_, by rw [← HSZ.out]; simp, ?_, ?_⟩
        · rw [← HSZ.out]; exact HK2.out.blk' fun b off e => by injection e with e; injection e with e _; subst e; exact HB.out.block _ hkg
        · rw [← HSZ.out]; exact viewOwns HN.out.own (by simp)
        · intro b off e; injection e with e; injection e with e _; omega
        · intro b off e; have := (HN.out.own.lt b (by rw [e]; rfl)).1; omega
      have HBr : Hid (Below w.heap.size w wr) := HB2.out.1.trans (HB.out.mono HB2.out.2)
      clear HN HB HK2 HB2
      have hE : Hid (View wr (.slice ea en ec) E) := he.out.kept fun q hq => HBr.out.block q (by omega)
      have hNN : Hid (View wr (.slice na nn nc) N) := hn.out.kept fun q hq => HBr.out.block q (by omega)
      have hPP : Hid (View wr (.slice pa pn pc) P) := hp.out.kept fun q hq => HBr.out.block q (by omega)
      obtain ⟨xs, HX⟩ : ∃ xs, Hid (xs = E ++ (N ++ P)) := ⟨_, rfl⟩
      obtain ⟨T, HT⟩ : ∃ T : Nat, Hid (T = xs.length) := ⟨_, rfl⟩
      have hT : T ≤ 196608 := by rw [HT.out, HX.out]; simp [hel.out, hnl.out, hpl.out]; omega
      have H30 : Hid (∀ t, Calls Tryd.prog 30 #[.slice (some ⟨wr.heap.size, 0, none⟩) 3 3] (wr.alloc (.cells #[.slice ea en ec, .slice na nn nc, .slice pa pn pc] t)) fun e w' => Hid (∃ ja jc, e = .returned (.slice ja T jc) ∧ w'.ownsRow wr.heap.size 5 1 (.slice ja T jc) T (cellsU8 xs) ∧ Below wr.heap.size wr w')) := by
        intro t
        have q := rjoined_ok (some ⟨wr.heap.size, 0, none⟩) 3 3 _ [E, N, P] _ (pv3_alloc t _ _ _ E N P hE.out hNN.out hPP.out) rfl (by show _ ≤ _; have h1 := hel.out; have h2 := hnl.out; have h3 := hpl.out; simp; omega) (by decide)
        have ef : ([E, N, P] : List (List Int)).flatten = xs := by rw [HX.out]; simp
        rw [ef, ← HT.out] at q
        refine q.mono ?_
        intro e w' hh
        obtain ⟨v', r1, r2, r3⟩ := hh.out
        obtain ⟨ja, jc, rfl⟩ := owns_slice0 r2
        have ba := below_alloc1 wr (.cells #[.slice ea en ec, .slice na nn nc, .slice pa pn pc] t)
        exact ⟨ja, jc, r1, owns_base r2 ba.size, ba.trans (r3.mono ba.size)⟩
      go_upto_region 16 with (go_at_call 30; refine (H30.out _).mono ?_; intro e8 w8 hh; obtain ⟨ja, jc, rfl, ho8, hb8⟩ := hh.out)
      have HS8 : Hid (RSp w8 g h L 0 (some ⟨w.heap.size, 0, none⟩) i va vc (fL (fun _ => 0) (szOf h)) (fL (ones (szOf h)) (szOf h))) := HS.out.below hb8
      have HU : Hid (Calls Tryd.prog 31 #[.pointer (some ⟨g, 0, none⟩), .slice ja T jc] w8 fun e w' => Hid (e = .returned (.tuple #[]) ∧ ∃ ka' kc' va' vc', RSp w' g h L 0 ka' kc' va' vc' (fL (updK h (fun _ => 0) (ones (szOf h)) xs) (szOf h)) (fL (updV h (fun _ => 0) (ones (szOf h)) xs) (szOf h)) ∧ Touch w8 w' g 0 5 ∧ New2 w8 ka' va')) := by
        have hRw : RTab w8 := (hR.out.below (HBr.out.trans (hb8.mono HBr.out.size)) (by omega))
        have q := rupdate_ok g h L 0 (some ⟨w.heap.size, 0, none⟩) va ja i vc T jc (fL (fun _ => 0) (szOf h)) (fL (ones (szOf h)) (szOf h)) xs w8 k HS8 hRw (viewOwns ho8 HT.out.symm) HT.out.symm (by omega) (by omega) (fun b off l c e => .inl (by injection e with e1 _ _; have := (ho8.lt b (by rw [e1]; rfl)).1; omega))
        refine q.mono ?_
        intro e w' hh
        obtain ⟨r1, ka', kc', va', vc', r2, r3, r4⟩ := hh.out
        rw [upd_rst k.out] at r2
        exact ⟨r1, ka', kc', va', vc', r2, r3, r4⟩
      have HB8 : Hid (Below w.heap.size w w8) := HBr.out.trans (hb8.mono HBr.out.size)
      clear hh ho8 hb8 HS8 HS H30
      go_upto_region 17 with (go_at_call 31; refine HU.out.mono ?_; intro e9 w9 hh; obtain ⟨rfl, ka', kc', va', vc', r2, r3, r4⟩ := hh.out)
      have HF : Hid (RSp w9 g h L 0 ka' kc' va' vc' (fL (updK h (fun _ => 0) (ones (szOf h)) (E ++ (N ++ P))) (szOf h)) (fL (updV h (fun _ => 0) (ones (szOf h)) (E ++ (N ++ P))) (szOf h)) ∧ New2 w ka' va' ∧ Below w.heap.size w w9) := by
        rw [← HX.out]
        have hs8 := HB8.out.size
        exact ⟨r2, ⟨fun b off e => by have := r4.1 b off e; omega, fun b off e => by have := r4.2 b off e; omega⟩, HB8.out.trans (r3.toBelow (by omega) (by omega))⟩
      clear hh r2 r3 r4 HU
      go_wp2
      go_ret2
      exact ⟨g, ka', kc', va', vc', rfl, by omega, HF.out.1, HF.out.2.1, HF.out.2.2⟩
end Go.Proofs.YtkeklmkaleomkaaDoor
