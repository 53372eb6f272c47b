import Derived.Test.YtkeklmkaleomkaaDoorPart11
import Derived.BigQuiet
import Derived.Test.YtkeklmkaleomkaaDoorPart09
import Derived.Test.YtkeklmkaleomkaaDoorPart04
import Derived.Test.YtkeklmkaleomkaaDoorPart07
import Derived.Lib.SlBytesConst
import Derived.Test.YtkeklmkaleomkaaDoorPart10
import Derived.Test.YtkeklmkaleomkaaDoorPart06
import Derived.Deep.DeepHandedRow
import Derived.Lib.LaidTab
namespace Go.Proofs.YtkeklmkaleomkaaDoor
open Go.RowKit
set_option linter.unusedVariables false
set_option linter.unusedSimpArgs false
theorem RSp.blk {w v : World} {g : Nat} {dg L c : Int} {ka va : Option Addr} {kc vc : Nat} {KL VL : List Int} (s : RSp w g dg L c ka kc va vc KL VL) (hb : v.heap[g]? = w.heap[g]?) (hk : ∀ b off, ka = some ⟨b, off, none⟩ → v.heap[b]? = w.heap[b]?) (hv : ∀ b off, va = some ⟨b, off, none⟩ → v.heap[b]? = w.heap[b]?) : RSp v g dg L c ka kc va vc KL VL := by
  have hc : ∀ j, v.cell? ⟨g, j, none⟩ = w.cell? ⟨g, j, none⟩ := fun j => World.cell?_of_block (a := ⟨g, j, none⟩) hb
  have hf : ∀ j, v.frozen? ⟨g, j, none⟩ = w.frozen? ⟨g, j, none⟩ := fun j => World.frozen?_of_block (a := ⟨g, j, none⟩) hb
  exact ⟨by rw [hc]; exact s.c0, by rw [hc]; exact s.c1, by rw [hc]; exact s.c2, by rw [hc]; exact s.c3, by rw [hc]; exact s.c4, fun j hj => by rw [hc, hf]; exact s.there j hj, s.vK.blk' hk, s.lK, s.vV.blk' hv, s.lV, s.aK, s.aV⟩
theorem RSp.setC {w : World} {g : Nat} {dg L c : Int} {ka va : Option Addr} {kc vc : Nat} {KL VL : List Int} (s : RSp w g dg L c ka kc va vc KL VL) (x : Int) : RSp (w.setCell ⟨g, 2, none⟩ (.int .i64 x)) g dg L x ka kc va vc KL VL := by
  have out : ∀ j, j ≠ 2 → (w.setCell ⟨g, 2, none⟩ (.int .i64 x)).cell? ⟨g, j, none⟩ = w.cell? ⟨g, j, none⟩ := fun j hj => World.cell?_setCell_other _ _ _ _ (by intro q; injection q with _ q2; omega)
  have t : Touch w (w.setCell ⟨g, 2, none⟩ (.int .i64 x)) g 0 5 := (Touch.refl w g 0 5).setCell 2 _ (by omega) (by omega)
  exact ⟨by rw [out 0 (by omega)]; exact s.c0, by rw [out 1 (by omega)]; exact s.c1, World.cell?_setCell_same' _ _ _ (by rw [s.c2]; rfl), by rw [out 3 (by omega)]; exact s.c3, by rw [out 4 (by omega)]; exact s.c4, World.there_setCells s.there g 2 [.int .i64 x], t.view s.vK (fun b off l c' e => .inl (by injection e with e1 _ _; exact s.aK b off e1)), s.lK, t.view s.vV (fun b off l c' e => .inl (by injection e with e1 _ _; exact s.aV b off e1)), s.lV, s.aK, s.aV⟩
theorem view_blk_lt {w : World} {b off n c : Nat} {zs : List Int} (h : View w (.slice (some ⟨b, off, none⟩) n c) zs) (h0 : 0 < zs.length) : b < w.heap.size := by
  obtain ⟨a', c', e, h1, h2, h3, h4⟩ := h
  rcases h4 with rfl | ⟨b', off', e4, hc⟩
  · simp at h0
  · injection e with e1 e2 e3
    rw [e4] at e1
    injection e1 with e1
    injection e1 with e1 _
    rw [e1]
    exact lt_of_cell (hc 0 h0)
theorem view_take2 {w : World} {a : Option Addr} {l c n : Nat} {zs : List Int} (h : View w (.slice a l c) zs) (hn : n ≤ zs.length) : View w (.slice a n c) (zs.take n) := by
  obtain ⟨a', c', e, h1, h2, h3, h4⟩ := h
  injection e with e1 e2 e3
  subst e1 e2 e3
  have hl : (zs.take n).length = n := by simp; omega
  refine ⟨a, c, by rw [hl], by rw [hl]; omega, h2, h3, ?_⟩
  rcases h4 with rfl | ⟨b, off, e4, hc⟩
  · exact .inl (by simp)
  · refine .inr ⟨b, off, e4, fun i hi => ?_⟩
    rw [hl] at hi
    rw [hc i (by omega), List.getD_eq_getElem?_getD, List.getD_eq_getElem?_getD, List.getElem?_take, if_pos hi]
/-- A slice's length. -/
def slLen : Value → Nat | .slice _ l _ => l | _ => 0
/-- What update leaves, as the program's. -/
def RUpdP (u w' : World) (g : Nat) (dg L c : Int) (K V : Nat → Int) (ys : List Int) : Prop := ∃ ka' kc' va' vc', RSp w' g dg L c ka' kc' va' vc' (fL (updK dg K V ys) (szOf dg)) (fL (updV dg K V ys) (szOf dg)) ∧ Touch u w' g 0 5 ∧ New2 u ka' va'
/-- What Draw leaves. -/
def RDrawP (w w' : World) (e : Ending) (g : Nat) (dg : Int) (K V : Nat → Int) (L c : Int) (n : Nat) (ys : List Int) : Prop := ∃ ba bc ka' kc' va' vc', e = .returned (.tuple #[.slice ba n bc, .int .i64 0]) ∧ View w' (.slice ba n bc) (fL (drO dg K V ys) n) ∧ (∀ b off, ba = some ⟨b, off, none⟩ → w.heap.size ≤ b) ∧ RSp w' g dg L (c + 1) ka' kc' va' vc' (fL (drK dg K V ys n) (szOf dg)) (fL (drV dg K V ys n) (szOf dg)) ∧ Touch w w' g 0 5
/-- In the midst of a draw. -/
structure RMid (wa u : World) (g : Nat) (dg L c : Int) (ka va oa : Option Addr) (kc vc oc q l : Nat) (KL VL : List Int) : Prop where
  sp : RSp u g dg L c ka kc va vc KL (rvq dg KL VL q)
  tou : Touch wa u g 0 5
  own : u.ownsRow wa.heap.size 5 1 (.slice oa l oc) l (cellsU8 (rout dg KL VL q))
  sep : ∀ b off, va = some ⟨b, off, none⟩ → ∀ b' off', oa = some ⟨b', off', none⟩ → b ≠ b'
theorem Touch.then {wa u v : World} {g o n : Nat} (t : Touch wa u g o n) (b : Below wa.heap.size u v) (hg : g < wa.heap.size) : Touch wa v g o n :=
  ⟨b.os.trans t.os, b.tape.trans t.tape, b.output.trans t.output, Nat.le_trans t.size b.size, fun k hk hne => (b.block k hk).trans (t.block k hk hne), fun j hj => by rw [World.cell?_of_block (a := ⟨g, j, none⟩) (b.block g hg)]; exact t.cell j hj, fun o' n' h j hj => by rw [World.cell?_of_block (a := ⟨g, o' + j, none⟩) (b.block g hg), World.frozen?_of_block (a := ⟨g, o' + j, none⟩) (b.block g hg)]; exact t.there o' n' h j hj⟩
theorem own_block {a : Option Addr} {l c : Nat} {b : Nat} (h : (Value.slice a l c).ownBlock = some b) : ∃ off, a = some ⟨b, off, none⟩ ∨ ∃ x, a = some x ∧ x.block = b := by
  cases a with
  | none => cases h
  | some x => exact ⟨0, .inr ⟨x, rfl, by simpa [Value.ownBlock] using h⟩⟩
set_option maxHeartbeats 6400000 in
set_option maxRecDepth 100000 in
/-- cofferref06.Draw, of what must be given. -/
theorem rdraw_ok (g : Nat) (dg : Int) (K V : Nat → Int) (L c : Int) (ka va xa : Option Addr) (kc vc xn xc n : Nat) (xs : List Value) (yss : List (List Int)) (w : World) (k : Hid (Known dg)) (hs : Hid (RSp w g dg L c ka kc va vc (fL K (szOf dg)) (fL V (szOf dg)))) (hR : Hid (RTab w)) (hP : Hid (PV w (.slice xa xn xc) xs yss)) (hxn : Hid (xs.length = xn)) (hl : Hid (yss.flatten.length ≤ 65536)) (hxb : xn ≤ 1048576) (hg : 4 ≤ g) (hn : n ≤ 65536) (hc : c ≠ L) (hc0 : 0 ≤ c) (hc1 : c ≤ 16777216) :
    Calls Tryd.prog 19 #[.pointer (some ⟨g, 0, none⟩), .int .i64 (n : Nat), .slice xa xn xc] w fun e w' => Hid (RDrawP w w' e g dg K V L c n yss.flatten) := by
  obtain ⟨N, HNN⟩ : ∃ N, Hid (N = yss.flatten.length) := ⟨_, rfl⟩
  obtain ⟨ys, HY⟩ : ∃ ys, Hid (ys = yss.flatten) := ⟨_, rfl⟩
  have hN : N ≤ 65536 := by rw [HNN.out]; exact hl.out
  have HYN : Hid (ys.length = N) := by rw [HY.out]; exact HNN.out.symm
  obtain ⟨sz, HSZ⟩ : ∃ n : Nat, Hid (n = szOf dg) := ⟨_, (show _ = _ from rfl)⟩
  have hsz : 1 ≤ sz ∧ sz ≤ 64 := by rw [HSZ.out]; exact szOf_pos k.out
  have HGW : Hid (g < w.heap.size) := hs.out.lt
  have H30 : Hid (Calls Tryd.prog 30 #[.slice xa xn xc] w fun e w' => Hid (∃ ja jc, e = .returned (.slice ja N jc) ∧ w'.ownsRow w.heap.size 5 1 (.slice ja N jc) N (cellsU8 ys) ∧ Below w.heap.size w w')) := by
    have q := rjoined_ok xa xn xc xs yss w hP hxn (by show _ ≤ _; have := hl.out; omega) hxb
    rw [← HNN.out, ← HY.out] at q
    refine q.mono ?_
    intro e w' hh
    obtain ⟨v', r1, r2, r3⟩ := hh.out
    obtain ⟨ja, jc, rfl⟩ := owns_slice0 r2
    exact ⟨ja, jc, r1, r2, r3⟩
  have hcb : (c == L) = false := by simpa using hc
  have d1 : decide ((65536 : Int) < (n : Nat)) = false := by simp; omega
  have d2 : decide ((65536 : Int) < (N : Nat)) = false := by simp; omega
  have d3 : decide (((n : Nat) : Int) < 0) = false := by simp
  rw [← HY.out]
  go_enter Tryd.func19, Tryd.ntmps19
  go_upto_region 2 with (go_at_call 30; refine H30.out.mono ?_; intro e1 w1 hh; obtain ⟨ja, jc, rfl, ho1, hb1⟩ := hh.out)
  have HJ1 : Hid (w1.ownsRow w.heap.size 5 1 (.slice ja N jc) N (cellsU8 ys)) := ho1
  have HT1 : Hid (Touch w w1 g 0 5) := (Touch.refl w g 0 5).below hb1 HGW.out
  have HS1 : Hid (RSp w1 g dg L c ka kc va vc (fL K (szOf dg)) (fL V (szOf dg))) := hs.out.below hb1
  clear hh ho1 hb1 H30
  have c1 : w1.cell? ⟨g, 1, none⟩ = some (.int .i64 L) := HS1.out.c1
  have c2 : w1.cell? ⟨g, 2, none⟩ = some (.int .i64 c) := HS1.out.c2
  go_upto_region 8 with fail
  go_quiet (fail)
  have HSd : Hid (RSp (w1.drewN nq) g dg L c ka kc va vc (fL K (szOf dg)) (fL V (szOf dg))) := HS1.out.blk rfl (fun _ _ _ => rfl) (fun _ _ _ => rfl)
  have HTd : Hid (Touch w (w1.drewN nq) g 0 5) := HT1.out.drewN nq
  have HJd : Hid ((w1.drewN nq).ownsRow w.heap.size 5 1 (.slice ja N jc) N (cellsU8 ys)) := HJ1.out
  generalize w1.drewN nq = wd at HSd HTd HJd ⊢
  clear c1 c2 HS1 HT1 HJ1
  have HU : Hid (∀ (u : World) (K V : Nat → Int) (ka va : Option Addr) (kc vc : Nat), RSp u g dg L c ka kc va vc (fL K (szOf dg)) (fL V (szOf dg)) → Touch w u g 0 5 → u.ownsRow w.heap.size 5 1 (.slice ja N jc) N (cellsU8 ys) → Calls Tryd.prog 31 #[.pointer (some ⟨g, 0, none⟩), .slice ja N jc] u fun e w' => Hid (e = .returned (.tuple #[]) ∧ RUpdP u w' g dg L c K V ys)) := by
    intro u K V ka va kc vc h1 h2 h3
    have q := rupdate_ok g dg L c ka va ja kc vc N jc (fL K (szOf dg)) (fL V (szOf dg)) ys u k h1 (hR.out.touch h2 hg) (viewOwns h3 HYN.out) HYN.out (by omega) hg (fun b off l c e => .inl (by injection e with e1 _ _; have := (h3.lt b (by rw [e1]; rfl)).1; have := HGW.out; omega))
    refine q.mono ?_
    intro e w' hh
    obtain ⟨r1, ka', kc', va', vc', r2, r3, r4⟩ := hh.out
    rw [upd_rst k.out] at r2
    exact ⟨r1, ka', kc', va', vc', r2, r3, r4⟩
  obtain ⟨K1, HK1⟩ : ∃ K1, Hid (K1 = preK dg K V ys) := ⟨_, rfl⟩
  obtain ⟨V1, HV1⟩ : ∃ V1, Hid (V1 = preV dg K V ys) := ⟨_, rfl⟩
  by_cases h0 : N = 0
  · have HE : Hid (ys = []) := List.eq_nil_of_length_eq_zero (by rw [HYN.out]; exact h0)
    have h1 : ¬ (0 : Int) < (N : Nat) := by omega
    clear h0
    have HSa : Hid (RSp wd g dg L c ka kc va vc (fL K1 (szOf dg)) (fL V1 (szOf dg))) := by
      show RSp _ _ _ _ _ _ _ _ _ _ _
      rw [HK1.out, HV1.out, preK, preV, if_pos HE.out, if_pos HE.out]
      exact HSd.out
    go_upto_region 12 with fail
    have HJX := HJd
    obtain ⟨KL, HKL⟩ : ∃ KL, Hid (KL = fL K1 (szOf dg)) := ⟨_, rfl⟩
    obtain ⟨VL, HVL⟩ : ∃ VL, Hid (VL = fL V1 (szOf dg)) := ⟨_, rfl⟩
    have HVLl : Hid (VL.length = szOf dg) := by show _ = _; rw [HVL.out, fL_length]
    have HGA : Hid (g < wd.heap.size) := HSa.out.lt
    have HM0 : Hid (RMid wd wd g dg L c ka va none kc vc 0 0 0 KL VL) := ⟨by rw [HKL.out, HVL.out]; exact HSa.out, Touch.refl _ _ _ _, World.ownsRow_nil _ _ _ _, fun b off e b' off' e' => (by cases e')⟩
    have HKN : Hid (∀ b off, ka = some ⟨b, off, none⟩ → b < wd.heap.size) := fun b off e => view_blk_lt (w := wd) (off := off) (n := szOf dg) (c := kc) (zs := fL K1 (szOf dg)) (by have q := HSa.out.vK; rw [e] at q; exact q) (by rw [fL_length, ← HSZ.out]; omega)
    go_wp2
    go_loopw [9] (fun vo wr => ∃ q l oc vc2 : Nat, ∃ oa va2 : Option Addr, vo = .slice oa l oc ∧ l ≤ 65600 ∧ Hid (l = q * sz) ∧ Hid (q = 0 ∨ (q - 1) * sz < n) ∧ Hid (RMid wd wr g dg L c ka va2 oa kc vc2 oc q l KL VL)) (fun vo _ => n - slLen vo)
    case atStart => exact ⟨0, 0, 0, vc, none, va, rfl, by omega, (by show 0 = _; rw [Nat.zero_mul]), .inl rfl, HM0.out⟩
    case round =>
      obtain ⟨q, l, oc, vc2, oa, va2, rfl, hl2, HL, HQ, HM⟩ := hrel
      clear HM0
      by_cases hlt : (l : Int) < (n : Nat)
      · obtain ⟨VQ, HVQ⟩ : ∃ Z, Hid (Z = rvq dg KL VL q) := ⟨_, rfl⟩
        have HSr : Hid (RSp wr g dg L c ka kc va2 vc2 KL VQ) := by rw [HVQ.out]; exact HM.out.sp
        obtain ⟨Z2, HZ2⟩ : ∃ Z, Hid (Z = hmac dg KL VQ) := ⟨_, rfl⟩
        have HZ2l : Hid (Z2.length = sz) := by show _ = _; rw [HZ2.out, hmac_len k.out, HSZ.out]
        have HC9 : Hid (∀ u, Sm wr u → Calls Tryd.prog 32 #[.int .i64 dg, .slice ka sz kc, .slice va2 sz vc2] u fun e w' => Hid (∃ a0 c0, e = .returned (.slice a0 sz c0) ∧ View w' (.slice a0 sz c0) Z2 ∧ (∀ b off, a0 = some ⟨b, off, none⟩ → wr.heap.size ≤ b ∧ b < w'.heap.size) ∧ Below wr.heap.size wr w')) := fun u hu => by
          have hbu : Below wr.heap.size wr u := Below.ofSm (Below.refl _ _) hu
          have hRr := hR.out.touch (HTd.out.trans HM.out.tou) hg
          have q := rcode_walk dg ka sz kc va2 sz vc2 KL VQ u k (hRr.below hbu (by have := hRr.size; omega)) (by show View _ _ _; have r := HSr.out.vK; rw [← HSZ.out] at r; exact hu.view r) (by show _ = _; rw [HSZ.out]; exact HSr.out.lK) (by show View _ _ _; have r := HSr.out.vV; rw [← HSZ.out] at r; exact hu.view r) (by show _ = _; rw [HSZ.out]; exact HSr.out.lV) (by omega) (by omega)
          rw [← HSZ.out, ← HZ2.out] at q
          refine q.mono ?_
          rintro e w' ⟨v', r1, r2, r3⟩
          obtain ⟨a0, c0, rfl⟩ := owns_slice0 r2
          exact ⟨a0, c0, r1, viewOwns r2 HZ2l.out, fun b off e => by have := r2.lt b (by rw [e]; rfl); have := hbu.size; omega, hbu.trans (r3.mono hbu.size)⟩
        have c0 := HSr.out.c0
        have c3 := HSr.out.c3
        have c4 := HSr.out.c4
        rw [← HSZ.out] at c3 c4
        go_upto_region 14 with fail
        go_region_with (go_at_call 32; refine (HC9.out _ ?_).mono ?_; exact ⟨rfl, rfl, rfl, rfl⟩; intro e10 w10 hh; obtain ⟨a10, c10, rfl, hv10, ha10, hb10⟩ := hh.out; have p4 : w10.cell? ⟨g, 4, none⟩ = some (.slice va2 (szOf dg) vc2) := (HSr.out.below hb10).c4; have z4 : w10.frozen? ⟨g, 4, none⟩ = false := (by have := ((HSr.out.below hb10).there 4 (by omega)).2; simpa using this))
        all_goals
          have HT11 : Hid (Touch wr (w10.setCell ⟨g, 4, none⟩ (.slice a10 sz c10)) g 0 5) := ((Touch.refl wr g 0 5).below hb10 HSr.out.lt).setCell 4 _ (by omega) (by omega)
          have HS11 : Hid (RSp (w10.setCell ⟨g, 4, none⟩ (.slice a10 sz c10)) g dg L c ka kc a10 c10 KL Z2) := by
            have q := (HSr.out.below hb10).setV a10 c10 Z2 (by rw [← HSZ.out]; exact hv10) (by rw [← HSZ.out]; exact HZ2l.out) (fun b off e => by have := ha10 b off e; have := HSr.out.lt; omega)
            rw [← HSZ.out] at q
            exact q
          have HA11 : Hid (∀ b off, a10 = some ⟨b, off, none⟩ → wr.heap.size ≤ b ∧ b < (w10.setCell ⟨g, 4, none⟩ (.slice a10 sz c10)).heap.size) := fun b off e => by have := ha10 b off e; simpa using this
          generalize w10.setCell ⟨g, 4, none⟩ (.slice a10 sz c10) = w11 at HT11 HS11 HA11 ⊢
          clear hh hv10 ha10 hb10 p4 z4 c0 c3 c4 HC9 HSr
          have HO11 : Hid (w11.ownsRow wd.heap.size 5 1 (.slice oa l oc) l (cellsU8 (rout dg KL VL q))) := owns_touch HM.out.own HT11.out HGA.out
          have HV11 : Hid (View w11 (.slice a10 sz c10) Z2) := by have q := HS11.out.vV; rw [← HSZ.out] at q; exact q
          have c4 : w11.cell? ⟨g, 4, none⟩ = some (.slice a10 sz c10) := by have q := HS11.out.c4; rw [← HSZ.out] at q; exact q
          have HOl : Hid (∀ b off, oa = some ⟨b, off, none⟩ → wd.heap.size ≤ b ∧ b < wr.heap.size) := fun b off e => HM.out.own.lt b (by rw [e]; rfl)
          have HW11 : Hid (wd.heap.size ≤ w11.heap.size) := Nat.le_trans HM.out.tou.size HT11.out.size
          go_wp2_with (first | (at_builtin; go_must (refine wpList_append_view rfl (.tmp 62) (.tmp 66) rfl wd.heap.size l (l + sz) (.slice oa l oc) (rout dg KL VL q) rfl HO11.out a10 sz c10 rfl Z2 HV11.out HZ2l.out rfl (by omega) HW11.out ?_)))
          intro v12 w12 hown12 hgrow12 hat12
          obtain ⟨oa2, oc2, rfl⟩ := owns_slice0 hown12
          have hown : ∀ b, (Value.slice oa l oc).ownBlock = some b → wd.heap.size ≤ b ∧ b < wr.heap.size := fun b hb => HM.out.own.lt b hb
          have hs11 : wr.heap.size ≤ w11.heap.size := HT11.out.size
          have hga := HGA.out
          have hw11 := HW11.out
          have HM12 : Hid (RMid wd w12 g dg L c ka a10 oa2 kc c10 oc2 (q + 1) (l + sz) KL VL) := by
            have hblk : ∀ b, b < w11.heap.size → some b ≠ (Value.slice oa l oc).ownBlock → w12.heap[b]? = w11.heap[b]? := fun b hb hne => hgrow12.block b hb hne
            refine ⟨?_, (HM.out.tou.trans HT11.out).then ((Below.refl _ _).grown hgrow12 HW11.out (fun b hb => (hown b hb).1)) hga, ?_, ?_⟩
            · rw [rvq, ← HVQ.out, ← HZ2.out]
              refine HS11.out.blk (hblk g (by omega) (fun e => by have := hown g e.symm; omega)) (fun b off e => hblk b (by have := HKN.out b off e; omega) (fun e2 => by have := hown b e2.symm; have := HKN.out b off e; omega)) (fun b off e => hblk b (HA11.out b off e).2 (fun e2 => by have := hown b e2.symm; have := HA11.out b off e; omega))
            · rw [rout, rvq, ← HVQ.out, ← HZ2.out]
              exact hown12
            · intro b off e b' off' e' hbb
              have h1 := HA11.out b off e
              subst hbb
              rcases hat12 with h2 | h2
              · have h3 := hown b (by rw [← h2, e']; rfl)
                omega
              · rw [e'] at h2
                have h3 : b = w11.heap.size := by simpa [Value.ownBlock] using h2
                omega
          have HL12 : Hid (l + sz = (q + 1) * sz) := by show _ = _; rw [HL.out, Nat.succ_mul]
          have HQ12 : Hid (q + 1 = 0 ∨ (q + 1 - 1) * sz < n) := .inr (by rw [Nat.add_sub_cancel, ← HL.out]; omega)
          clear hown12 hgrow12 hat12 HV11 HO11 HT11 HS11 HA11 c4 hown HOl
          go_wp2
          go_roundw
          case rel => exact ⟨q + 1, l + sz, oc2, c10, oa2, a10, rfl, by omega, HL12, HQ12, HM12⟩
          case measure => simp [slLen]; omega
      · have hln : n ≤ l := by omega
        have HQ2 : Hid (q = (n + szOf dg - 1) / szOf dg) := by rw [← HSZ.out]; exact (ceil_eq n sz q hsz.1 (by rw [← HL.out]; exact hln) HQ.out).symm
        have HSr : Hid (RSp wr g dg L c ka kc va2 vc2 (fL K1 (szOf dg)) (fL (drV0 dg K V ys n) (szOf dg))) := by
          have r := HM.out.sp
          rw [HKL.out, HVL.out, rvq_eq k.out] at r
          have e1 : drV0 dg K V ys n = vq dg K1 V1 q := by rw [HK1.out, HV1.out, HQ2.out]; rfl
          rw [e1]
          exact r
        have HTr : Hid (Touch w wr g 0 5) := HTd.out.trans HM.out.tou
        have HJr : Hid (wr.ownsRow w.heap.size 5 1 (.slice ja N jc) N (cellsU8 ys)) := owns_touch HJX.out HM.out.tou HGW.out
        have HRL : Hid ((rout dg KL VL q).length = l) := by show _ = _; rw [rout_len k.out _ _ HVLl.out, HL.out, HSZ.out]
        have HVo : Hid (View wr (.slice oa l oc) (rout dg KL VL q) ∧ (∀ b off, oa = some ⟨b, off, none⟩ → wd.heap.size ≤ b)) := ⟨viewOwns HM.out.own HRL.out, fun b off e => (HM.out.own.lt b (by rw [e]; rfl)).1⟩
        clear HM
        go_upto_region 17 with (go_at_call 31; refine (HU.out _ K1 _ _ _ _ _ HSr.out HTr.out HJr.out).mono ?_; intro e4 w4 hh; obtain ⟨rfl, ka3, kc3, va3, vc3, hs4, ht4, _⟩ := hh.out)
        have HS4 : Hid (RSp w4 g dg L c ka3 kc3 va3 vc3 (fL (drK dg K V ys n) (szOf dg)) (fL (drV dg K V ys n) (szOf dg))) := by
          have q := hs4
          rw [HK1.out] at q
          exact q
        have hga := HGA.out
        have HV4 : Hid (View w4 (.slice oa l oc) (rout dg KL VL q)) := ht4.view HVo.out.1 (fun b' off l' c' e => .inl (by injection e with e1 _ _; have := HVo.out.2 b' off e1; omega))
        have HT4 : Hid (Touch w w4 g 0 5) := HTr.out.trans ht4
        clear hh hs4 ht4 HSr HJr
        have c2 : w4.cell? ⟨g, 2, none⟩ = some (.int .i64 c) := HS4.out.c2
        have f2 : w4.frozen? ⟨g, 2, none⟩ = false := by have := (HS4.out.there 2 (by omega)).2; simpa using this
        have HF : Hid (View (w4.setCell ⟨g, 2, none⟩ (.int .i64 (c + 1))) (.slice oa l oc) (rout dg KL VL q) ∧ RSp (w4.setCell ⟨g, 2, none⟩ (.int .i64 (c + 1))) g dg L (c + 1) ka3 kc3 va3 vc3 (fL (drK dg K V ys n) (szOf dg)) (fL (drV dg K V ys n) (szOf dg)) ∧ Touch w (w4.setCell ⟨g, 2, none⟩ (.int .i64 (c + 1))) g 0 5) := by
          have t5 : Touch w4 (w4.setCell ⟨g, 2, none⟩ (.int .i64 (c + 1))) g 0 5 := (Touch.refl w4 g 0 5).setCell 2 _ (by omega) (by omega)
          exact ⟨t5.view HV4.out (fun b' off l' c' e => .inl (by injection e with e1 _ _; have := HVo.out.2 b' off e1; omega)), HS4.out.setC (c + 1), HT4.out.trans t5⟩
        clear HS4 HT4
        have HGv : Hid ((rout dg KL VL q).take n = fL (drO dg K V ys) n) := by
          show _ = _
          rw [HKL.out, HVL.out, rout_take k.out _ _ _ _ (by rw [← HSZ.out, ← HL.out]; exact hln), HK1.out, HV1.out]
          rfl
        have hwa := HTd.out.size
        obtain ⟨oa', oc', eo, ho1, ho2, ho3, _⟩ := HV4.out
        have hoc : l ≤ oc ∧ oc ≤ 9223372036854775807 := by injection eo with e1 e2 e3; have := HRL.out; unfold maxLen at ho2; omega
        have ho4 : oa = none → oc = 0 := by injection eo with e1 e2 e3; intro e; rw [e3]; exact ho3 (by rw [← e1]; exact e)
        clear eo ho1 ho2 ho3 HV4
        have HEND : Hid (∀ e, e = .returned (.tuple #[.slice oa n oc, .int .i64 0]) → RDrawP w (w4.setCell ⟨g, 2, none⟩ (.int .i64 (c + 1))) e g dg K V L c n ys) := fun e he => ⟨oa, oc, ka3, kc3, va3, vc3, he, by rw [← HGv.out]; exact view_take2 HF.out.1 (by rw [HRL.out]; exact hln), fun b off e1 => by have := HVo.out.2 b off e1; omega, HF.out.2.1, HF.out.2.2⟩
        cases oa with
        | none =>
          obtain rfl := ho4 rfl
          obtain rfl : l = 0 := by omega
          obtain rfl : n = 0 := by omega
          go_wp2
          go_ret2
          exact HEND.out _ rfl
        | some x =>
          obtain ⟨xb, xo, xi⟩ := x
          go_wp2
          go_ret2
          exact HEND.out _ rfl
  · have h1 : (0 : Int) < (N : Nat) := by omega
    have HE : Hid (ys ≠ []) := fun e => h0 (by rw [← HYN.out, e]; rfl)
    go_upto_region 12 with (go_at_call 31; refine (HU.out _ _ _ _ _ _ _ HSd.out HTd.out HJd.out).mono ?_; intro e2 wa hh; obtain ⟨rfl, ka1, kc1, va1, vc1, hsa, hta, _⟩ := hh.out)
    have HSa : Hid (RSp wa g dg L c ka1 kc1 va1 vc1 (fL K1 (szOf dg)) (fL V1 (szOf dg))) := by
      show RSp _ _ _ _ _ _ _ _ _ _ _
      rw [HK1.out, HV1.out, preK, preV, if_neg HE.out, if_neg HE.out]
      exact hsa
    have HTa : Hid (Touch w wa g 0 5) := HTd.out.trans hta
    have HJX : Hid (wa.ownsRow w.heap.size 5 1 (.slice ja N jc) N (cellsU8 ys)) := owns_touch HJd.out hta HGW.out
    clear hh hsa hta HSd HTd HJd
    obtain ⟨KL, HKL⟩ : ∃ KL, Hid (KL = fL K1 (szOf dg)) := ⟨_, rfl⟩
    obtain ⟨VL, HVL⟩ : ∃ VL, Hid (VL = fL V1 (szOf dg)) := ⟨_, rfl⟩
    have HVLl : Hid (VL.length = szOf dg) := by show _ = _; rw [HVL.out, fL_length]
    have HGA : Hid (g < wa.heap.size) := HSa.out.lt
    have HM0 : Hid (RMid wa wa g dg L c ka1 va1 none kc1 vc1 0 0 0 KL VL) := ⟨by rw [HKL.out, HVL.out]; exact HSa.out, Touch.refl _ _ _ _, World.ownsRow_nil _ _ _ _, fun b off e b' off' e' => (by cases e')⟩
    have HKN : Hid (∀ b off, ka1 = some ⟨b, off, none⟩ → b < wa.heap.size) := fun b off e => view_blk_lt (w := wa) (off := off) (n := szOf dg) (c := kc1) (zs := fL K1 (szOf dg)) (by have q := HSa.out.vK; rw [e] at q; exact q) (by rw [fL_length, ← HSZ.out]; omega)
    go_wp2
    go_loopw [9] (fun vo wr => ∃ q l oc vc2 : Nat, ∃ oa va2 : Option Addr, vo = .slice oa l oc ∧ l ≤ 65600 ∧ Hid (l = q * sz) ∧ Hid (q = 0 ∨ (q - 1) * sz < n) ∧ Hid (RMid wa wr g dg L c ka1 va2 oa kc1 vc2 oc q l KL VL)) (fun vo _ => n - slLen vo)
    case atStart => exact ⟨0, 0, 0, vc1, none, va1, rfl, by omega, (by show 0 = _; rw [Nat.zero_mul]), .inl rfl, HM0.out⟩
    case round =>
      obtain ⟨q, l, oc, vc2, oa, va2, rfl, hl2, HL, HQ, HM⟩ := hrel
      clear HM0
      by_cases hlt : (l : Int) < (n : Nat)
      · obtain ⟨VQ, HVQ⟩ : ∃ Z, Hid (Z = rvq dg KL VL q) := ⟨_, rfl⟩
        have HSr : Hid (RSp wr g dg L c ka1 kc1 va2 vc2 KL VQ) := by rw [HVQ.out]; exact HM.out.sp
        obtain ⟨Z2, HZ2⟩ : ∃ Z, Hid (Z = hmac dg KL VQ) := ⟨_, rfl⟩
        have HZ2l : Hid (Z2.length = sz) := by show _ = _; rw [HZ2.out, hmac_len k.out, HSZ.out]
        have HC9 : Hid (∀ u, Sm wr u → Calls Tryd.prog 32 #[.int .i64 dg, .slice ka1 sz kc1, .slice va2 sz vc2] u fun e w' => Hid (∃ a0 c0, e = .returned (.slice a0 sz c0) ∧ View w' (.slice a0 sz c0) Z2 ∧ (∀ b off, a0 = some ⟨b, off, none⟩ → wr.heap.size ≤ b ∧ b < w'.heap.size) ∧ Below wr.heap.size wr w')) := fun u hu => by
          have hbu : Below wr.heap.size wr u := Below.ofSm (Below.refl _ _) hu
          have hRr := hR.out.touch (HTa.out.trans HM.out.tou) hg
          have q := rcode_walk dg ka1 sz kc1 va2 sz vc2 KL VQ u k (hRr.below hbu (by have := hRr.size; omega)) (by show View _ _ _; have r := HSr.out.vK; rw [← HSZ.out] at r; exact hu.view r) (by show _ = _; rw [HSZ.out]; exact HSr.out.lK) (by show View _ _ _; have r := HSr.out.vV; rw [← HSZ.out] at r; exact hu.view r) (by show _ = _; rw [HSZ.out]; exact HSr.out.lV) (by omega) (by omega)
          rw [← HSZ.out, ← HZ2.out] at q
          refine q.mono ?_
          rintro e w' ⟨v', r1, r2, r3⟩
          obtain ⟨a0, c0, rfl⟩ := owns_slice0 r2
          exact ⟨a0, c0, r1, viewOwns r2 HZ2l.out, fun b off e => by have := r2.lt b (by rw [e]; rfl); have := hbu.size; omega, hbu.trans (r3.mono hbu.size)⟩
        have c0 := HSr.out.c0
        have c3 := HSr.out.c3
        have c4 := HSr.out.c4
        rw [← HSZ.out] at c3 c4
        go_upto_region 14 with fail
        go_region_with (go_at_call 32; refine (HC9.out _ ?_).mono ?_; exact ⟨rfl, rfl, rfl, rfl⟩; intro e10 w10 hh; obtain ⟨a10, c10, rfl, hv10, ha10, hb10⟩ := hh.out; have p4 : w10.cell? ⟨g, 4, none⟩ = some (.slice va2 (szOf dg) vc2) := (HSr.out.below hb10).c4; have z4 : w10.frozen? ⟨g, 4, none⟩ = false := (by have := ((HSr.out.below hb10).there 4 (by omega)).2; simpa using this))
        all_goals
          have HT11 : Hid (Touch wr (w10.setCell ⟨g, 4, none⟩ (.slice a10 sz c10)) g 0 5) := ((Touch.refl wr g 0 5).below hb10 HSr.out.lt).setCell 4 _ (by omega) (by omega)
          have HS11 : Hid (RSp (w10.setCell ⟨g, 4, none⟩ (.slice a10 sz c10)) g dg L c ka1 kc1 a10 c10 KL Z2) := by
            have q := (HSr.out.below hb10).setV a10 c10 Z2 (by rw [← HSZ.out]; exact hv10) (by rw [← HSZ.out]; exact HZ2l.out) (fun b off e => by have := ha10 b off e; have := HSr.out.lt; omega)
            rw [← HSZ.out] at q
            exact q
          have HA11 : Hid (∀ b off, a10 = some ⟨b, off, none⟩ → wr.heap.size ≤ b ∧ b < (w10.setCell ⟨g, 4, none⟩ (.slice a10 sz c10)).heap.size) := fun b off e => by have := ha10 b off e; simpa using this
          generalize w10.setCell ⟨g, 4, none⟩ (.slice a10 sz c10) = w11 at HT11 HS11 HA11 ⊢
          clear hh hv10 ha10 hb10 p4 z4 c0 c3 c4 HC9 HSr
          have HO11 : Hid (w11.ownsRow wa.heap.size 5 1 (.slice oa l oc) l (cellsU8 (rout dg KL VL q))) := owns_touch HM.out.own HT11.out HGA.out
          have HV11 : Hid (View w11 (.slice a10 sz c10) Z2) := by have q := HS11.out.vV; rw [← HSZ.out] at q; exact q
          have c4 : w11.cell? ⟨g, 4, none⟩ = some (.slice a10 sz c10) := by have q := HS11.out.c4; rw [← HSZ.out] at q; exact q
          have HOl : Hid (∀ b off, oa = some ⟨b, off, none⟩ → wa.heap.size ≤ b ∧ b < wr.heap.size) := fun b off e => HM.out.own.lt b (by rw [e]; rfl)
          have HW11 : Hid (wa.heap.size ≤ w11.heap.size) := Nat.le_trans HM.out.tou.size HT11.out.size
          go_wp2_with (first | (at_builtin; go_must (refine wpList_append_view rfl (.tmp 62) (.tmp 66) rfl wa.heap.size l (l + sz) (.slice oa l oc) (rout dg KL VL q) rfl HO11.out a10 sz c10 rfl Z2 HV11.out HZ2l.out rfl (by omega) HW11.out ?_)))
          intro v12 w12 hown12 hgrow12 hat12
          obtain ⟨oa2, oc2, rfl⟩ := owns_slice0 hown12
          have hown : ∀ b, (Value.slice oa l oc).ownBlock = some b → wa.heap.size ≤ b ∧ b < wr.heap.size := fun b hb => HM.out.own.lt b hb
          have hs11 : wr.heap.size ≤ w11.heap.size := HT11.out.size
          have hga := HGA.out
          have hw11 := HW11.out
          have HM12 : Hid (RMid wa w12 g dg L c ka1 a10 oa2 kc1 c10 oc2 (q + 1) (l + sz) KL VL) := by
            have hblk : ∀ b, b < w11.heap.size → some b ≠ (Value.slice oa l oc).ownBlock → w12.heap[b]? = w11.heap[b]? := fun b hb hne => hgrow12.block b hb hne
            refine ⟨?_, (HM.out.tou.trans HT11.out).then ((Below.refl _ _).grown hgrow12 HW11.out (fun b hb => (hown b hb).1)) hga, ?_, ?_⟩
            · rw [rvq, ← HVQ.out, ← HZ2.out]
              refine HS11.out.blk (hblk g (by omega) (fun e => by have := hown g e.symm; omega)) (fun b off e => hblk b (by have := HKN.out b off e; omega) (fun e2 => by have := hown b e2.symm; have := HKN.out b off e; omega)) (fun b off e => hblk b (HA11.out b off e).2 (fun e2 => by have := hown b e2.symm; have := HA11.out b off e; omega))
            · rw [rout, rvq, ← HVQ.out, ← HZ2.out]
              exact hown12
            · intro b off e b' off' e' hbb
              have h1 := HA11.out b off e
              subst hbb
              rcases hat12 with h2 | h2
              · have h3 := hown b (by rw [← h2, e']; rfl)
                omega
              · rw [e'] at h2
                have h3 : b = w11.heap.size := by simpa [Value.ownBlock] using h2
                omega
          have HL12 : Hid (l + sz = (q + 1) * sz) := by show _ = _; rw [HL.out, Nat.succ_mul]
          have HQ12 : Hid (q + 1 = 0 ∨ (q + 1 - 1) * sz < n) := .inr (by rw [Nat.add_sub_cancel, ← HL.out]; omega)
          clear hown12 hgrow12 hat12 HV11 HO11 HT11 HS11 HA11 c4 hown HOl
          go_wp2
          go_roundw
          case rel => exact ⟨q + 1, l + sz, oc2, c10, oa2, a10, rfl, by omega, HL12, HQ12, HM12⟩
          case measure => simp [slLen]; omega
      · have hln : n ≤ l := by omega
        have HQ2 : Hid (q = (n + szOf dg - 1) / szOf dg) := by rw [← HSZ.out]; exact (ceil_eq n sz q hsz.1 (by rw [← HL.out]; exact hln) HQ.out).symm
        have HSr : Hid (RSp wr g dg L c ka1 kc1 va2 vc2 (fL K1 (szOf dg)) (fL (drV0 dg K V ys n) (szOf dg))) := by
          have r := HM.out.sp
          rw [HKL.out, HVL.out, rvq_eq k.out] at r
          have e1 : drV0 dg K V ys n = vq dg K1 V1 q := by rw [HK1.out, HV1.out, HQ2.out]; rfl
          rw [e1]
          exact r
        have HTr : Hid (Touch w wr g 0 5) := HTa.out.trans HM.out.tou
        have HJr : Hid (wr.ownsRow w.heap.size 5 1 (.slice ja N jc) N (cellsU8 ys)) := owns_touch HJX.out HM.out.tou HGW.out
        have HRL : Hid ((rout dg KL VL q).length = l) := by show _ = _; rw [rout_len k.out _ _ HVLl.out, HL.out, HSZ.out]
        have HVo : Hid (View wr (.slice oa l oc) (rout dg KL VL q) ∧ (∀ b off, oa = some ⟨b, off, none⟩ → wa.heap.size ≤ b)) := ⟨viewOwns HM.out.own HRL.out, fun b off e => (HM.out.own.lt b (by rw [e]; rfl)).1⟩
        clear HM
        go_upto_region 17 with (go_at_call 31; refine (HU.out _ K1 _ _ _ _ _ HSr.out HTr.out HJr.out).mono ?_; intro e4 w4 hh; obtain ⟨rfl, ka3, kc3, va3, vc3, hs4, ht4, _⟩ := hh.out)
        have HS4 : Hid (RSp w4 g dg L c ka3 kc3 va3 vc3 (fL (drK dg K V ys n) (szOf dg)) (fL (drV dg K V ys n) (szOf dg))) := by
          have q := hs4
          rw [HK1.out] at q
          exact q
        have hga := HGA.out
        have HV4 : Hid (View w4 (.slice oa l oc) (rout dg KL VL q)) := ht4.view HVo.out.1 (fun b' off l' c' e => .inl (by injection e with e1 _ _; have := HVo.out.2 b' off e1; omega))
        have HT4 : Hid (Touch w w4 g 0 5) := HTr.out.trans ht4
        clear hh hs4 ht4 HSr HJr
        have c2 : w4.cell? ⟨g, 2, none⟩ = some (.int .i64 c) := HS4.out.c2
        have f2 : w4.frozen? ⟨g, 2, none⟩ = false := by have := (HS4.out.there 2 (by omega)).2; simpa using this
        have HF : Hid (View (w4.setCell ⟨g, 2, none⟩ (.int .i64 (c + 1))) (.slice oa l oc) (rout dg KL VL q) ∧ RSp (w4.setCell ⟨g, 2, none⟩ (.int .i64 (c + 1))) g dg L (c + 1) ka3 kc3 va3 vc3 (fL (drK dg K V ys n) (szOf dg)) (fL (drV dg K V ys n) (szOf dg)) ∧ Touch w (w4.setCell ⟨g, 2, none⟩ (.int .i64 (c + 1))) g 0 5) := by
          have t5 : Touch w4 (w4.setCell ⟨g, 2, none⟩ (.int .i64 (c + 1))) g 0 5 := (Touch.refl w4 g 0 5).setCell 2 _ (by omega) (by omega)
          exact ⟨t5.view HV4.out (fun b' off l' c' e => .inl (by injection e with e1 _ _; have := HVo.out.2 b' off e1; omega)), HS4.out.setC (c + 1), HT4.out.trans t5⟩
        clear HS4 HT4
        have HGv : Hid ((rout dg KL VL q).take n = fL (drO dg K V ys) n) := by
          show _ = _
          rw [HKL.out, HVL.out, rout_take k.out _ _ _ _ (by rw [← HSZ.out, ← HL.out]; exact hln), HK1.out, HV1.out]
          rfl
        have hwa := HTa.out.size
        obtain ⟨oa', oc', eo, ho1, ho2, ho3, _⟩ := HV4.out
        have hoc : l ≤ oc ∧ oc ≤ 9223372036854775807 := by injection eo with e1 e2 e3; have := HRL.out; unfold maxLen at ho2; omega
        have ho4 : oa = none → oc = 0 := by injection eo with e1 e2 e3; intro e; rw [e3]; exact ho3 (by rw [← e1]; exact e)
        clear eo ho1 ho2 ho3 HV4
        have HEND : Hid (∀ e, e = .returned (.tuple #[.slice oa n oc, .int .i64 0]) → RDrawP w (w4.setCell ⟨g, 2, none⟩ (.int .i64 (c + 1))) e g dg K V L c n ys) := fun e he => ⟨oa, oc, ka3, kc3, va3, vc3, he, by rw [← HGv.out]; exact view_take2 HF.out.1 (by rw [HRL.out]; exact hln), fun b off e1 => by have := HVo.out.2 b off e1; omega, HF.out.2.1, HF.out.2.2⟩
        cases oa with
        | none =>
          obtain rfl := ho4 rfl
          obtain rfl : l = 0 := by omega
          obtain rfl : n = 0 := by omega
          go_wp2
          go_ret2
          exact HEND.out _ rfl
        | some x =>
          obtain ⟨xb, xo, xi⟩ := x
          go_wp2
          go_ret2
          exact HEND.out _ rfl
end Go.Proofs.YtkeklmkaleomkaaDoor
namespace Go.Proofs.YtkeklmkaleomkaaDoor
open Go.RowKit
set_option linter.unusedVariables false
set_option linter.unusedSimpArgs false
set_option maxHeartbeats 400000 in
theorem feeds_few2 (a : Option Addr) (n c : Nat) (w : World) (h1 : n < 16) : Calls Tryd.prog 23 #[.slice a n c] w fun e w' => e = .returned (.bool false) ∧ w' = w := by
  have d1 : decide ((16 : Int) ≤ (n : Nat)) = false := by simp; omega
  go_enter Tryd.func23, Tryd.ntmps23
  go_wp2
  go_ret
  exact ⟨rfl, rfl⟩
set_option maxHeartbeats 400000 in
theorem feeds_many2 (a : Option Addr) (n c : Nat) (w : World) (h1 : 65536 < n) : Calls Tryd.prog 23 #[.slice a n c] w fun e w' => e = .returned (.bool false) ∧ w' = w := by
  have d1 : decide ((16 : Int) ≤ (n : Nat)) = true := by simp; omega
  have d2 : decide (((n : Nat) : Int) ≤ 65536) = false := by simp; omega
  go_enter Tryd.func23, Tryd.ntmps23
  go_wp2
  go_ret
  exact ⟨rfl, rfl⟩
instance (h : Int) : Decidable (Known h) := by unfold Known; infer_instance
/-- What New tells of what it doesn't take. -/
def newE (h L : Int) (en nn pn : Nat) : Int := if ¬ Known h then 10 else if L < 1 ∨ 16777216 < L then 2 else if en < 16 ∨ 65536 < en then 60 else if 65536 < nn ∨ 65536 < pn then 4 else 0
theorem newE_zero {h L : Int} {en nn pn : Nat} (e : newE h L en nn pn = 0) : Known h ∧ 1 ≤ L ∧ L ≤ 16777216 ∧ 16 ≤ en ∧ en ≤ 65536 ∧ nn ≤ 65536 ∧ pn ≤ 65536 := by
  unfold newE at e
  by_cases k : ¬ Known h
  · rw [if_pos k] at e; cases e
  · rw [if_neg k] at e
    by_cases h1 : L < 1 ∨ 16777216 < L
    · rw [if_pos h1] at e; cases e
    · rw [if_neg h1] at e
      by_cases h2 : en < 16 ∨ 65536 < en
      · rw [if_pos h2] at e; cases e
      · rw [if_neg h2] at e
        by_cases h3 : 65536 < nn ∨ 65536 < pn
        · rw [if_pos h3] at e; cases e
        · exact ⟨Classical.not_not.1 k, by omega, by omega, by omega, by omega, by omega, by omega⟩
set_option maxHeartbeats 800000 in
set_option maxRecDepth 100000 in
theorem rnew_10 (h L : Int) (ea na pa : Option Addr) (en ec nn nc pn pc : Nat) (w : World) (k : ¬ Known h) : Calls Tryd.prog 28 #[.int .i64 h, .int .i64 L, .slice ea en ec, .slice na nn nc, .slice pa pn pc] w fun e w' => e = .returned (.tuple #[.pointer none, .int .i64 10]) ∧ w' = w := by
  go_enter Tryd.func28, Tryd.ntmps28
  go_wp2_with (go_at_call 42; refine (rsize_bad h k w).mono ?_; rintro e1 w1 ⟨rfl, hw1⟩; obtain rfl := hw1.symm)
  go_ret2
  exact ⟨rfl, rfl⟩
set_option maxHeartbeats 800000 in
set_option maxRecDepth 100000 in
theorem rnew_2a (h L : Int) (ea na pa : Option Addr) (en ec nn nc pn pc : Nat) (w : World) (k : Known h) (hL1t : L < 1) : Calls Tryd.prog 28 #[.int .i64 h, .int .i64 L, .slice ea en ec, .slice na nn nc, .slice pa pn pc] w fun e w' => e = .returned (.tuple #[.pointer none, .int .i64 2]) ∧ w' = w := by
  obtain ⟨sz, HSZ⟩ : ∃ n : Nat, Hid (n = szOf h) := ⟨_, (show _ = _ from rfl)⟩
  have hsz : 1 ≤ sz ∧ sz ≤ 64 := by rw [HSZ.out]; exact szOf_pos k
  have H42 : Hid (Calls Tryd.prog 42 #[.int .i64 h] w fun e w' => e = .returned (.int .i64 (sz : Nat)) ∧ w' = w) := by
    have q := rsize_ok h k w
    rw [← HSZ.out] at q
    exact q
  have q0 : (((sz : Nat) : Int) == 0) = false := by simp; omega
  have qL1t : decide (L < 1) = true := by simp; omega
  go_enter Tryd.func28, Tryd.ntmps28
  go_wp2_with (go_at_call 42; refine H42.out.mono ?_; rintro e1 w1 ⟨rfl, hw1⟩; obtain rfl := hw1.symm)
  go_ret2
  exact ⟨rfl, rfl⟩
set_option maxHeartbeats 800000 in
set_option maxRecDepth 100000 in
theorem rnew_2b (h L : Int) (ea na pa : Option Addr) (en ec nn nc pn pc : Nat) (w : World) (k : Known h) (hL1f : ¬ L < 1) (hL2t : 16777216 < L) : Calls Tryd.prog 28 #[.int .i64 h, .int .i64 L, .slice ea en ec, .slice na nn nc, .slice pa pn pc] w fun e w' => e = .returned (.tuple #[.pointer none, .int .i64 2]) ∧ w' = w := by
  obtain ⟨sz, HSZ⟩ : ∃ n : Nat, Hid (n = szOf h) := ⟨_, (show _ = _ from rfl)⟩
  have hsz : 1 ≤ sz ∧ sz ≤ 64 := by rw [HSZ.out]; exact szOf_pos k
  have H42 : Hid (Calls Tryd.prog 42 #[.int .i64 h] w fun e w' => e = .returned (.int .i64 (sz : Nat)) ∧ w' = w) := by
    have q := rsize_ok h k w
    rw [← HSZ.out] at q
    exact q
  have q0 : (((sz : Nat) : Int) == 0) = false := by simp; omega
  have qL1f : decide (L < 1) = false := by simp; omega
  have qL2t : decide (16777216 < L) = true := by simp; omega
  go_enter Tryd.func28, Tryd.ntmps28
  go_wp2_with (go_at_call 42; refine H42.out.mono ?_; rintro e1 w1 ⟨rfl, hw1⟩; obtain rfl := hw1.symm)
  go_ret2
  exact ⟨rfl, rfl⟩
set_option maxHeartbeats 800000 in
set_option maxRecDepth 100000 in
theorem rnew_60a (h L : Int) (ea na pa : Option Addr) (en ec nn nc pn pc : Nat) (w : World) (k : Known h) (hL1f : ¬ L < 1) (hL2f : ¬ 16777216 < L) (he1t : en < 16) : Calls Tryd.prog 28 #[.int .i64 h, .int .i64 L, .slice ea en ec, .slice na nn nc, .slice pa pn pc] w fun e w' => e = .returned (.tuple #[.pointer none, .int .i64 60]) ∧ w' = w := by
  obtain ⟨sz, HSZ⟩ : ∃ n : Nat, Hid (n = szOf h) := ⟨_, (show _ = _ from rfl)⟩
  have hsz : 1 ≤ sz ∧ sz ≤ 64 := by rw [HSZ.out]; exact szOf_pos k
  have H42 : Hid (Calls Tryd.prog 42 #[.int .i64 h] w fun e w' => e = .returned (.int .i64 (sz : Nat)) ∧ w' = w) := by
    have q := rsize_ok h k w
    rw [← HSZ.out] at q
    exact q
  have q0 : (((sz : Nat) : Int) == 0) = false := by simp; omega
  have qL1f : decide (L < 1) = false := by simp; omega
  have qL2f : decide (16777216 < L) = false := by simp; omega
  have qe1t : decide (((en : Nat) : Int) < 16) = true := by simp; omega
  go_enter Tryd.func28, Tryd.ntmps28
  go_wp2_with (go_at_call 42; refine H42.out.mono ?_; rintro e1 w1 ⟨rfl, hw1⟩; obtain rfl := hw1.symm)
  go_ret2
  exact ⟨rfl, rfl⟩
set_option maxHeartbeats 800000 in
set_option maxRecDepth 100000 in
theorem rnew_60b (h L : Int) (ea na pa : Option Addr) (en ec nn nc pn pc : Nat) (w : World) (k : Known h) (hL1f : ¬ L < 1) (hL2f : ¬ 16777216 < L) (he1f : ¬ en < 16) (he2t : 65536 < en) : Calls Tryd.prog 28 #[.int .i64 h, .int .i64 L, .slice ea en ec, .slice na nn nc, .slice pa pn pc] w fun e w' => e = .returned (.tuple #[.pointer none, .int .i64 60]) ∧ w' = w := by
  obtain ⟨sz, HSZ⟩ : ∃ n : Nat, Hid (n = szOf h) := ⟨_, (show _ = _ from rfl)⟩
  have hsz : 1 ≤ sz ∧ sz ≤ 64 := by rw [HSZ.out]; exact szOf_pos k
  have H42 : Hid (Calls Tryd.prog 42 #[.int .i64 h] w fun e w' => e = .returned (.int .i64 (sz : Nat)) ∧ w' = w) := by
    have q := rsize_ok h k w
    rw [← HSZ.out] at q
    exact q
  have q0 : (((sz : Nat) : Int) == 0) = false := by simp; omega
  have qL1f : decide (L < 1) = false := by simp; omega
  have qL2f : decide (16777216 < L) = false := by simp; omega
  have qe1f : decide (((en : Nat) : Int) < 16) = false := by simp; omega
  have qe2t : decide ((65536 : Int) < (en : Nat)) = true := by simp; omega
  go_enter Tryd.func28, Tryd.ntmps28
  go_wp2_with (go_at_call 42; refine H42.out.mono ?_; rintro e1 w1 ⟨rfl, hw1⟩; obtain rfl := hw1.symm)
  go_ret2
  exact ⟨rfl, rfl⟩
set_option maxHeartbeats 800000 in
set_option maxRecDepth 100000 in
theorem rnew_4a (h L : Int) (ea na pa : Option Addr) (en ec nn nc pn pc : Nat) (w : World) (k : Known h) (hL1f : ¬ L < 1) (hL2f : ¬ 16777216 < L) (he1f : ¬ en < 16) (he2f : ¬ 65536 < en) (hn1t : 65536 < nn) : Calls Tryd.prog 28 #[.int .i64 h, .int .i64 L, .slice ea en ec, .slice na nn nc, .slice pa pn pc] w fun e w' => e = .returned (.tuple #[.pointer none, .int .i64 4]) ∧ w' = w := by
  obtain ⟨sz, HSZ⟩ : ∃ n : Nat, Hid (n = szOf h) := ⟨_, (show _ = _ from rfl)⟩
  have hsz : 1 ≤ sz ∧ sz ≤ 64 := by rw [HSZ.out]; exact szOf_pos k
  have H42 : Hid (Calls Tryd.prog 42 #[.int .i64 h] w fun e w' => e = .returned (.int .i64 (sz : Nat)) ∧ w' = w) := by
    have q := rsize_ok h k w
    rw [← HSZ.out] at q
    exact q
  have q0 : (((sz : Nat) : Int) == 0) = false := by simp; omega
  have qL1f : decide (L < 1) = false := by simp; omega
  have qL2f : decide (16777216 < L) = false := by simp; omega
  have qe1f : decide (((en : Nat) : Int) < 16) = false := by simp; omega
  have qe2f : decide ((65536 : Int) < (en : Nat)) = false := by simp; omega
  have qn1t : decide ((65536 : Int) < (nn : Nat)) = true := by simp; omega
  go_enter Tryd.func28, Tryd.ntmps28
  go_wp2_with (go_at_call 42; refine H42.out.mono ?_; rintro e1 w1 ⟨rfl, hw1⟩; obtain rfl := hw1.symm)
  go_ret2
  exact ⟨rfl, rfl⟩
set_option maxHeartbeats 800000 in
set_option maxRecDepth 100000 in
theorem rnew_4b (h L : Int) (ea na pa : Option Addr) (en ec nn nc pn pc : Nat) (w : World) (k : Known h) (hL1f : ¬ L < 1) (hL2f : ¬ 16777216 < L) (he1f : ¬ en < 16) (he2f : ¬ 65536 < en) (hn1f : ¬ 65536 < nn) (hp1t : 65536 < pn) : Calls Tryd.prog 28 #[.int .i64 h, .int .i64 L, .slice ea en ec, .slice na nn nc, .slice pa pn pc] w fun e w' => e = .returned (.tuple #[.pointer none, .int .i64 4]) ∧ w' = w := by
  obtain ⟨sz, HSZ⟩ : ∃ n : Nat, Hid (n = szOf h) := ⟨_, (show _ = _ from rfl)⟩
  have hsz : 1 ≤ sz ∧ sz ≤ 64 := by rw [HSZ.out]; exact szOf_pos k
  have H42 : Hid (Calls Tryd.prog 42 #[.int .i64 h] w fun e w' => e = .returned (.int .i64 (sz : Nat)) ∧ w' = w) := by
    have q := rsize_ok h k w
    rw [← HSZ.out] at q
    exact q
  have q0 : (((sz : Nat) : Int) == 0) = false := by simp; omega
  have qL1f : decide (L < 1) = false := by simp; omega
  have qL2f : decide (16777216 < L) = false := by simp; omega
  have qe1f : decide (((en : Nat) : Int) < 16) = false := by simp; omega
  have qe2f : decide ((65536 : Int) < (en : Nat)) = false := by simp; omega
  have qn1f : decide ((65536 : Int) < (nn : Nat)) = false := by simp; omega
  have qp1t : decide ((65536 : Int) < (pn : Nat)) = true := by simp; omega
  go_enter Tryd.func28, Tryd.ntmps28
  go_wp2_with (go_at_call 42; refine H42.out.mono ?_; rintro e1 w1 ⟨rfl, hw1⟩; obtain rfl := hw1.symm)
  go_ret2
  exact ⟨rfl, rfl⟩
/-- cofferref06.New, of what is refused. -/
theorem rnew_bad (h L : Int) (ea na pa : Option Addr) (en ec nn nc pn pc : Nat) (w : World) (hE : newE h L en nn pn ≠ 0) : Calls Tryd.prog 28 #[.int .i64 h, .int .i64 L, .slice ea en ec, .slice na nn nc, .slice pa pn pc] w fun e w' => e = .returned (.tuple #[.pointer none, .int .i64 (newE h L en nn pn)]) ∧ w' = w := by
  unfold newE at hE ⊢
  by_cases k : ¬ Known h
  · rw [if_pos k]; exact rnew_10 h L ea na pa en ec nn nc pn pc w k
  · rw [if_neg k] at hE ⊢
    have k' := Classical.not_not.1 k
    by_cases h1 : L < 1 ∨ 16777216 < L
    · rw [if_pos h1]
      by_cases h1' : L < 1
      · exact rnew_2a h L ea na pa en ec nn nc pn pc w k' h1'
      · exact rnew_2b h L ea na pa en ec nn nc pn pc w k' h1' (by omega)
    · rw [if_neg h1] at hE ⊢
      by_cases h2 : en < 16 ∨ 65536 < en
      · rw [if_pos h2]
        by_cases h2' : en < 16
        · exact rnew_60a h L ea na pa en ec nn nc pn pc w k' (by omega) (by omega) h2'
        · exact rnew_60b h L ea na pa en ec nn nc pn pc w k' (by omega) (by omega) h2' (by omega)
      · rw [if_neg h2] at hE ⊢
        by_cases h3 : 65536 < nn ∨ 65536 < pn
        · rw [if_pos h3]
          by_cases h3' : 65536 < nn
          · exact rnew_4a h L ea na pa en ec nn nc pn pc w k' (by omega) (by omega) (by omega) (by omega) h3'
          · exact rnew_4b h L ea na pa en ec nn nc pn pc w k' (by omega) (by omega) (by omega) (by omega) h3' (by omega)
        · rw [if_neg h3] at hE; exact absurd rfl hE
theorem zc60 : Tryd.zeroCells60 = (stL 0 (fun _ => 0) (fun _ => 0)).toArray := by kernel_rfl
set_option maxHeartbeats 800000 in
set_option maxRecDepth 100000 in
/-- digest.Size of what is no digest. -/
theorem size_un (h : Int) (k : ¬ Known h) (w : World) : Calls Tryd.prog 39 #[.int .i64 h] w fun e w' => e = .returned (.int .i64 0) ∧ w' = w := by
  have d1 : ¬ h = 224 := fun e => k (.inl e)
  have d2 : ¬ h = 256 := fun e => k (.inr (.inl e))
  have d3 : ¬ h = 384 := fun e => k (.inr (.inr (.inl e)))
  have d4 : ¬ h = 512 := fun e => k (.inr (.inr (.inr e)))
  have e1 : blockOf h = 0 := by simp [blockOf, d1, d2, d3, d4]
  go_enter Tryd.func39, Tryd.ntmps39
  go_wp2_with (first | (go_at_call 45; refine (block_any _ _).mono ?_; rintro e1 w1 ⟨rfl, hw1⟩; obtain rfl := hw1.symm; rw [e1]))
  go_ret
  exact ⟨rfl, rfl⟩
set_option maxHeartbeats 1600000 in
set_option maxRecDepth 100000 in
/-- firstState, of what is no digest. -/
theorem firstState_bad (h : Int) (w : World) (k : ¬ Known h) :
    Calls Tryd.prog 22 #[.int .i64 h] w fun e w' => e = .returned (.tuple #[.agg (stL 0 (fun _ => 0) (fun _ => 0)).toArray, .int .i64 10]) ∧ Below w.heap.size w w' := by
  obtain ⟨C, HC⟩ : ∃ C : List Value, Hid (C = stL 0 (fun _ => 0) (fun _ => 0)) := ⟨_, rfl⟩
  have e60 : Tryd.zeroCells60 = C.toArray := by rw [HC.out]; exact zc60
  have HCl : Hid (C.length = 129) := by show _ = _; rw [HC.out]; exact stL_length _ _ _
  have HCs : Hid (C.toArray.size = 129) := by show _ = _; simpa using HCl.out
  have HCo : Hid (C.toArray.all (·.oneCell') = true) := by show _ = _; rw [HC.out]; exact stL_one _ _ _
  have HT : Hid ((w.alloc (.cells C.toArray 60)).there w.heap.size 0 129) := there_new w C.toArray 60 129 (by rw [HCs.out]; exact Nat.le_refl _)
  rw [← HC.out]
  go_enter Tryd.func22, Tryd.ntmps22
  go_wp2_with (first
    | (go_at_call 39; refine (size_un h k _).mono ?_; rintro e5 w5 ⟨rfl, hw5⟩; obtain rfl := hw5.symm)
    | (refine wpList_store_mid (by rfl) 60 (.tmp 2) (.tmp 11) (by rfl) w.heap.size 0 C.toArray (by rfl) (by first | rfl | exact congrArg _ e60 | simp [e60]) (by rw [HCs.out]; exact HT.out) (by rw [HCs.out]; exact size60) HCo.out ?_)
    | fail)
  have HW : Hid (Below w.heap.size w ((w.alloc (.cells C.toArray 60)).setCells w.heap.size 0 C)) := below_setCells _ (Nat.le_refl _) _ _ _ ((Below.refl _ _).alloc (Nat.le_refl _) _)
  have hl := run_loadVar_mid (P := Tryd.prog) ((w.alloc (.cells C.toArray 60)).setCells w.heap.size 0 C) w.heap.size 0 60 C _ (World.rangeAt_setCells_same (w.alloc (.cells C.toArray 60)) w.heap.size 0 C (by rw [HCl.out]; exact HT.out)) Tryd.underlying60 rfl (by rw [HCl.out]; exact size60)
  (try simp only [Exit.inBlock, Exit.then])
  refine bodyPost_ret (v := .tuple #[.agg C.toArray, .int .i64 10]) ?_ rfl ⟨rfl, HW.out⟩
  rw [results_cell_tmp Tryd.results22]
  simp [asAddr, hl]
set_option maxHeartbeats 1600000 in
set_option maxRecDepth 100000 in
theorem spnew_10 (h L : Int) (ea na pa : Option Addr) (en ec nn nc pn pc : Nat) (w : World) (k : ¬ Known h)  : Calls Tryd.prog 9 #[.int .i64 h, .int .i64 L, .slice ea en ec, .slice na nn nc, .slice pa pn pc] w fun e w' => e = .returned (.tuple #[.pointer none, .int .i64 10]) ∧ Below w.heap.size w w' := by
  obtain ⟨C, HC⟩ : ∃ C : List Value, Hid (C = stL 0 (fun _ => 0) (fun _ => 0)) := ⟨_, rfl⟩
  have HCl : Hid (C.length = 129) := by show _ = _; rw [HC.out]; exact stL_length _ _ _
  have HCs : Hid (C.toArray.size = 129) := by show _ = _; simpa using HCl.out
  have HCo : Hid (C.toArray.all (·.oneCell') = true) := by show _ = _; rw [HC.out]; exact stL_one _ _ _
  have H22 : Hid (Calls Tryd.prog 22 #[.int .i64 h] w fun e w' => Hid (e = .returned (.tuple #[.agg C.toArray, .int .i64 10]) ∧ Below w.heap.size w w')) := by
    have q := firstState_bad h w k
    rw [← HC.out] at q
    exact q
  go_enter Tryd.func9, Tryd.ntmps9
  go_wp2_with (go_at_call 22; refine H22.out.mono ?_)
  intro e1 w1 hh
  obtain ⟨rfl, hb1⟩ := hh.out
  have HB1 : Hid (Below w.heap.size w w1) := hb1
  have HX1 : Hid ((w1.alloc (.cells Tryd.zeroCells60 60)).there w1.heap.size 0 129) := there_new w1 Tryd.zeroCells60 60 129 (by rw [zero60]; exact Nat.le_refl _)
  clear hh hb1 H22
  go_upto_region 2 with (first
    | (refine wpList_store_mid (by rfl) 60 (.tmp 12) (.tmp 18) (by rfl) w1.heap.size 0 C.toArray (by rfl) (by rfl) (by rw [HCs.out]; exact HX1.out) (by rw [HCs.out]; exact size60) HCo.out ?_)
    | fail)
  have HW2 : Hid (Below w.heap.size w ((w1.alloc (.cells Tryd.zeroCells60 60)).setCells w1.heap.size 0 C)) := below_setCells _ HB1.out.size _ _ _ (HB1.out.alloc HB1.out.size _)
  generalize (w1.alloc (.cells Tryd.zeroCells60 60)).setCells w1.heap.size 0 C = w2 at HW2 ⊢
  clear HX1
  go_wp2
  go_ret2
  exact ⟨rfl, HW2.out⟩
set_option maxHeartbeats 1600000 in
set_option maxRecDepth 100000 in
theorem spnew_2a (h L : Int) (ea na pa : Option Addr) (en ec nn nc pn pc : Nat) (w : World) (k : Known h) (hL1t : L < 1) : Calls Tryd.prog 9 #[.int .i64 h, .int .i64 L, .slice ea en ec, .slice na nn nc, .slice pa pn pc] w fun e w' => e = .returned (.tuple #[.pointer none, .int .i64 2]) ∧ Below w.heap.size w w' := by
  obtain ⟨C, HC⟩ : ∃ C : List Value, Hid (C = stL h (fun _ => 0) (ones (szOf h))) := ⟨_, rfl⟩
  have HCl : Hid (C.length = 129) := by show _ = _; rw [HC.out]; exact stL_length _ _ _
  have HCs : Hid (C.toArray.size = 129) := by show _ = _; simpa using HCl.out
  have HCo : Hid (C.toArray.all (·.oneCell') = true) := by show _ = _; rw [HC.out]; exact stL_one _ _ _
  have H22 : Hid (Calls Tryd.prog 22 #[.int .i64 h] w fun e w' => Hid (e = .returned (.tuple #[.agg C.toArray, .int .i64 0]) ∧ Below w.heap.size w w')) := by
    have q := firstState_ok h w k
    rw [← HC.out] at q
    exact q
  have qL1t : decide (L < 1) = true := by simp; omega
  go_enter Tryd.func9, Tryd.ntmps9
  go_wp2_with (go_at_call 22; refine H22.out.mono ?_)
  intro e1 w1 hh
  obtain ⟨rfl, hb1⟩ := hh.out
  have HB1 : Hid (Below w.heap.size w w1) := hb1
  have HX1 : Hid ((w1.alloc (.cells Tryd.zeroCells60 60)).there w1.heap.size 0 129) := there_new w1 Tryd.zeroCells60 60 129 (by rw [zero60]; exact Nat.le_refl _)
  clear hh hb1 H22
  go_upto_region 2 with (first
    | (refine wpList_store_mid (by rfl) 60 (.tmp 12) (.tmp 18) (by rfl) w1.heap.size 0 C.toArray (by rfl) (by rfl) (by rw [HCs.out]; exact HX1.out) (by rw [HCs.out]; exact size60) HCo.out ?_)
    | fail)
  have HW2 : Hid (Below w.heap.size w ((w1.alloc (.cells Tryd.zeroCells60 60)).setCells w1.heap.size 0 C)) := below_setCells _ HB1.out.size _ _ _ (HB1.out.alloc HB1.out.size _)
  generalize (w1.alloc (.cells Tryd.zeroCells60 60)).setCells w1.heap.size 0 C = w2 at HW2 ⊢
  clear HX1
  go_wp2
  go_ret2
  exact ⟨rfl, HW2.out⟩
set_option maxHeartbeats 1600000 in
set_option maxRecDepth 100000 in
theorem spnew_2b (h L : Int) (ea na pa : Option Addr) (en ec nn nc pn pc : Nat) (w : World) (k : Known h) (hL1f : ¬ L < 1) (hL2t : 16777216 < L) : Calls Tryd.prog 9 #[.int .i64 h, .int .i64 L, .slice ea en ec, .slice na nn nc, .slice pa pn pc] w fun e w' => e = .returned (.tuple #[.pointer none, .int .i64 2]) ∧ Below w.heap.size w w' := by
  obtain ⟨C, HC⟩ : ∃ C : List Value, Hid (C = stL h (fun _ => 0) (ones (szOf h))) := ⟨_, rfl⟩
  have HCl : Hid (C.length = 129) := by show _ = _; rw [HC.out]; exact stL_length _ _ _
  have HCs : Hid (C.toArray.size = 129) := by show _ = _; simpa using HCl.out
  have HCo : Hid (C.toArray.all (·.oneCell') = true) := by show _ = _; rw [HC.out]; exact stL_one _ _ _
  have H22 : Hid (Calls Tryd.prog 22 #[.int .i64 h] w fun e w' => Hid (e = .returned (.tuple #[.agg C.toArray, .int .i64 0]) ∧ Below w.heap.size w w')) := by
    have q := firstState_ok h w k
    rw [← HC.out] at q
    exact q
  have qL1f : decide (L < 1) = false := by simp; omega
  have qL2t : decide (16777216 < L) = true := by simp; omega
  go_enter Tryd.func9, Tryd.ntmps9
  go_wp2_with (go_at_call 22; refine H22.out.mono ?_)
  intro e1 w1 hh
  obtain ⟨rfl, hb1⟩ := hh.out
  have HB1 : Hid (Below w.heap.size w w1) := hb1
  have HX1 : Hid ((w1.alloc (.cells Tryd.zeroCells60 60)).there w1.heap.size 0 129) := there_new w1 Tryd.zeroCells60 60 129 (by rw [zero60]; exact Nat.le_refl _)
  clear hh hb1 H22
  go_upto_region 2 with (first
    | (refine wpList_store_mid (by rfl) 60 (.tmp 12) (.tmp 18) (by rfl) w1.heap.size 0 C.toArray (by rfl) (by rfl) (by rw [HCs.out]; exact HX1.out) (by rw [HCs.out]; exact size60) HCo.out ?_)
    | fail)
  have HW2 : Hid (Below w.heap.size w ((w1.alloc (.cells Tryd.zeroCells60 60)).setCells w1.heap.size 0 C)) := below_setCells _ HB1.out.size _ _ _ (HB1.out.alloc HB1.out.size _)
  generalize (w1.alloc (.cells Tryd.zeroCells60 60)).setCells w1.heap.size 0 C = w2 at HW2 ⊢
  clear HX1
  go_wp2
  go_ret2
  exact ⟨rfl, HW2.out⟩
set_option maxHeartbeats 1600000 in
set_option maxRecDepth 100000 in
theorem spnew_60a (h L : Int) (ea na pa : Option Addr) (en ec nn nc pn pc : Nat) (w : World) (k : Known h) (hL1f : ¬ L < 1) (hL2f : ¬ 16777216 < L) (he1t : en < 16) : Calls Tryd.prog 9 #[.int .i64 h, .int .i64 L, .slice ea en ec, .slice na nn nc, .slice pa pn pc] w fun e w' => e = .returned (.tuple #[.pointer none, .int .i64 60]) ∧ Below w.heap.size w w' := by
  obtain ⟨C, HC⟩ : ∃ C : List Value, Hid (C = stL h (fun _ => 0) (ones (szOf h))) := ⟨_, rfl⟩
  have HCl : Hid (C.length = 129) := by show _ = _; rw [HC.out]; exact stL_length _ _ _
  have HCs : Hid (C.toArray.size = 129) := by show _ = _; simpa using HCl.out
  have HCo : Hid (C.toArray.all (·.oneCell') = true) := by show _ = _; rw [HC.out]; exact stL_one _ _ _
  have H22 : Hid (Calls Tryd.prog 22 #[.int .i64 h] w fun e w' => Hid (e = .returned (.tuple #[.agg C.toArray, .int .i64 0]) ∧ Below w.heap.size w w')) := by
    have q := firstState_ok h w k
    rw [← HC.out] at q
    exact q
  have qL1f : decide (L < 1) = false := by simp; omega
  have qL2f : decide (16777216 < L) = false := by simp; omega
  go_enter Tryd.func9, Tryd.ntmps9
  go_wp2_with (go_at_call 22; refine H22.out.mono ?_)
  intro e1 w1 hh
  obtain ⟨rfl, hb1⟩ := hh.out
  have HB1 : Hid (Below w.heap.size w w1) := hb1
  have HX1 : Hid ((w1.alloc (.cells Tryd.zeroCells60 60)).there w1.heap.size 0 129) := there_new w1 Tryd.zeroCells60 60 129 (by rw [zero60]; exact Nat.le_refl _)
  clear hh hb1 H22
  go_upto_region 2 with (first
    | (refine wpList_store_mid (by rfl) 60 (.tmp 12) (.tmp 18) (by rfl) w1.heap.size 0 C.toArray (by rfl) (by rfl) (by rw [HCs.out]; exact HX1.out) (by rw [HCs.out]; exact size60) HCo.out ?_)
    | fail)
  have HW2 : Hid (Below w.heap.size w ((w1.alloc (.cells Tryd.zeroCells60 60)).setCells w1.heap.size 0 C)) := below_setCells _ HB1.out.size _ _ _ (HB1.out.alloc HB1.out.size _)
  generalize (w1.alloc (.cells Tryd.zeroCells60 60)).setCells w1.heap.size 0 C = w2 at HW2 ⊢
  clear HX1
  go_wp2_with (go_at_call 23; refine (feeds_few2 ea en ec _ he1t).mono ?_; rintro e5 w5 ⟨rfl, hw5⟩; obtain rfl := hw5.symm)
  go_ret2
  exact ⟨rfl, HW2.out⟩
set_option maxHeartbeats 1600000 in
set_option maxRecDepth 100000 in
theorem spnew_60b (h L : Int) (ea na pa : Option Addr) (en ec nn nc pn pc : Nat) (w : World) (k : Known h) (hL1f : ¬ L < 1) (hL2f : ¬ 16777216 < L) (he1f : ¬ en < 16) (he2t : 65536 < en) : Calls Tryd.prog 9 #[.int .i64 h, .int .i64 L, .slice ea en ec, .slice na nn nc, .slice pa pn pc] w fun e w' => e = .returned (.tuple #[.pointer none, .int .i64 60]) ∧ Below w.heap.size w w' := by
  obtain ⟨C, HC⟩ : ∃ C : List Value, Hid (C = stL h (fun _ => 0) (ones (szOf h))) := ⟨_, rfl⟩
  have HCl : Hid (C.length = 129) := by show _ = _; rw [HC.out]; exact stL_length _ _ _
  have HCs : Hid (C.toArray.size = 129) := by show _ = _; simpa using HCl.out
  have HCo : Hid (C.toArray.all (·.oneCell') = true) := by show _ = _; rw [HC.out]; exact stL_one _ _ _
  have H22 : Hid (Calls Tryd.prog 22 #[.int .i64 h] w fun e w' => Hid (e = .returned (.tuple #[.agg C.toArray, .int .i64 0]) ∧ Below w.heap.size w w')) := by
    have q := firstState_ok h w k
    rw [← HC.out] at q
    exact q
  have qL1f : decide (L < 1) = false := by simp; omega
  have qL2f : decide (16777216 < L) = false := by simp; omega
  go_enter Tryd.func9, Tryd.ntmps9
  go_wp2_with (go_at_call 22; refine H22.out.mono ?_)
  intro e1 w1 hh
  obtain ⟨rfl, hb1⟩ := hh.out
  have HB1 : Hid (Below w.heap.size w w1) := hb1
  have HX1 : Hid ((w1.alloc (.cells Tryd.zeroCells60 60)).there w1.heap.size 0 129) := there_new w1 Tryd.zeroCells60 60 129 (by rw [zero60]; exact Nat.le_refl _)
  clear hh hb1 H22
  go_upto_region 2 with (first
    | (refine wpList_store_mid (by rfl) 60 (.tmp 12) (.tmp 18) (by rfl) w1.heap.size 0 C.toArray (by rfl) (by rfl) (by rw [HCs.out]; exact HX1.out) (by rw [HCs.out]; exact size60) HCo.out ?_)
    | fail)
  have HW2 : Hid (Below w.heap.size w ((w1.alloc (.cells Tryd.zeroCells60 60)).setCells w1.heap.size 0 C)) := below_setCells _ HB1.out.size _ _ _ (HB1.out.alloc HB1.out.size _)
  generalize (w1.alloc (.cells Tryd.zeroCells60 60)).setCells w1.heap.size 0 C = w2 at HW2 ⊢
  clear HX1
  go_wp2_with (go_at_call 23; refine (feeds_many2 ea en ec _ he2t).mono ?_; rintro e5 w5 ⟨rfl, hw5⟩; obtain rfl := hw5.symm)
  go_ret2
  exact ⟨rfl, HW2.out⟩
set_option maxHeartbeats 1600000 in
set_option maxRecDepth 100000 in
theorem spnew_4a (h L : Int) (ea na pa : Option Addr) (en ec nn nc pn pc : Nat) (w : World) (k : Known h) (hL1f : ¬ L < 1) (hL2f : ¬ 16777216 < L) (he1f : ¬ en < 16) (he2f : ¬ 65536 < en) (hn1t : 65536 < nn) : Calls Tryd.prog 9 #[.int .i64 h, .int .i64 L, .slice ea en ec, .slice na nn nc, .slice pa pn pc] w fun e w' => e = .returned (.tuple #[.pointer none, .int .i64 4]) ∧ Below w.heap.size w w' := by
  obtain ⟨C, HC⟩ : ∃ C : List Value, Hid (C = stL h (fun _ => 0) (ones (szOf h))) := ⟨_, rfl⟩
  have HCl : Hid (C.length = 129) := by show _ = _; rw [HC.out]; exact stL_length _ _ _
  have HCs : Hid (C.toArray.size = 129) := by show _ = _; simpa using HCl.out
  have HCo : Hid (C.toArray.all (·.oneCell') = true) := by show _ = _; rw [HC.out]; exact stL_one _ _ _
  have H22 : Hid (Calls Tryd.prog 22 #[.int .i64 h] w fun e w' => Hid (e = .returned (.tuple #[.agg C.toArray, .int .i64 0]) ∧ Below w.heap.size w w')) := by
    have q := firstState_ok h w k
    rw [← HC.out] at q
    exact q
  have qL1f : decide (L < 1) = false := by simp; omega
  have qL2f : decide (16777216 < L) = false := by simp; omega
  have qn1t : decide ((65536 : Int) < (nn : Nat)) = true := by simp; omega
  go_enter Tryd.func9, Tryd.ntmps9
  go_wp2_with (go_at_call 22; refine H22.out.mono ?_)
  intro e1 w1 hh
  obtain ⟨rfl, hb1⟩ := hh.out
  have HB1 : Hid (Below w.heap.size w w1) := hb1
  have HX1 : Hid ((w1.alloc (.cells Tryd.zeroCells60 60)).there w1.heap.size 0 129) := there_new w1 Tryd.zeroCells60 60 129 (by rw [zero60]; exact Nat.le_refl _)
  clear hh hb1 H22
  go_upto_region 2 with (first
    | (refine wpList_store_mid (by rfl) 60 (.tmp 12) (.tmp 18) (by rfl) w1.heap.size 0 C.toArray (by rfl) (by rfl) (by rw [HCs.out]; exact HX1.out) (by rw [HCs.out]; exact size60) HCo.out ?_)
    | fail)
  have HW2 : Hid (Below w.heap.size w ((w1.alloc (.cells Tryd.zeroCells60 60)).setCells w1.heap.size 0 C)) := below_setCells _ HB1.out.size _ _ _ (HB1.out.alloc HB1.out.size _)
  generalize (w1.alloc (.cells Tryd.zeroCells60 60)).setCells w1.heap.size 0 C = w2 at HW2 ⊢
  clear HX1
  go_wp2_with (go_at_call 23; refine (feeds_ok ea en ec _ (by omega) (by omega)).mono ?_; rintro e5 w5 ⟨rfl, hw5⟩; obtain rfl := hw5.symm)
  go_ret2
  exact ⟨rfl, HW2.out⟩
set_option maxHeartbeats 1600000 in
set_option maxRecDepth 100000 in
theorem spnew_4b (h L : Int) (ea na pa : Option Addr) (en ec nn nc pn pc : Nat) (w : World) (k : Known h) (hL1f : ¬ L < 1) (hL2f : ¬ 16777216 < L) (he1f : ¬ en < 16) (he2f : ¬ 65536 < en) (hn1f : ¬ 65536 < nn) (hp1t : 65536 < pn) : Calls Tryd.prog 9 #[.int .i64 h, .int .i64 L, .slice ea en ec, .slice na nn nc, .slice pa pn pc] w fun e w' => e = .returned (.tuple #[.pointer none, .int .i64 4]) ∧ Below w.heap.size w w' := by
  obtain ⟨C, HC⟩ : ∃ C : List Value, Hid (C = stL h (fun _ => 0) (ones (szOf h))) := ⟨_, rfl⟩
  have HCl : Hid (C.length = 129) := by show _ = _; rw [HC.out]; exact stL_length _ _ _
  have HCs : Hid (C.toArray.size = 129) := by show _ = _; simpa using HCl.out
  have HCo : Hid (C.toArray.all (·.oneCell') = true) := by show _ = _; rw [HC.out]; exact stL_one _ _ _
  have H22 : Hid (Calls Tryd.prog 22 #[.int .i64 h] w fun e w' => Hid (e = .returned (.tuple #[.agg C.toArray, .int .i64 0]) ∧ Below w.heap.size w w')) := by
    have q := firstState_ok h w k
    rw [← HC.out] at q
    exact q
  have qL1f : decide (L < 1) = false := by simp; omega
  have qL2f : decide (16777216 < L) = false := by simp; omega
  have qn1f : decide ((65536 : Int) < (nn : Nat)) = false := by simp; omega
  have qp1t : decide ((65536 : Int) < (pn : Nat)) = true := by simp; omega
  go_enter Tryd.func9, Tryd.ntmps9
  go_wp2_with (go_at_call 22; refine H22.out.mono ?_)
  intro e1 w1 hh
  obtain ⟨rfl, hb1⟩ := hh.out
  have HB1 : Hid (Below w.heap.size w w1) := hb1
  have HX1 : Hid ((w1.alloc (.cells Tryd.zeroCells60 60)).there w1.heap.size 0 129) := there_new w1 Tryd.zeroCells60 60 129 (by rw [zero60]; exact Nat.le_refl _)
  clear hh hb1 H22
  go_upto_region 2 with (first
    | (refine wpList_store_mid (by rfl) 60 (.tmp 12) (.tmp 18) (by rfl) w1.heap.size 0 C.toArray (by rfl) (by rfl) (by rw [HCs.out]; exact HX1.out) (by rw [HCs.out]; exact size60) HCo.out ?_)
    | fail)
  have HW2 : Hid (Below w.heap.size w ((w1.alloc (.cells Tryd.zeroCells60 60)).setCells w1.heap.size 0 C)) := below_setCells _ HB1.out.size _ _ _ (HB1.out.alloc HB1.out.size _)
  generalize (w1.alloc (.cells Tryd.zeroCells60 60)).setCells w1.heap.size 0 C = w2 at HW2 ⊢
  clear HX1
  go_wp2_with (go_at_call 23; refine (feeds_ok ea en ec _ (by omega) (by omega)).mono ?_; rintro e5 w5 ⟨rfl, hw5⟩; obtain rfl := hw5.symm)
  go_ret2
  exact ⟨rfl, HW2.out⟩
/-- spring.New, of what is refused. -/
theorem spnew_bad (h L : Int) (ea na pa : Option Addr) (en ec nn nc pn pc : Nat) (w : World) (hE : newE h L en nn pn ≠ 0) : Calls Tryd.prog 9 #[.int .i64 h, .int .i64 L, .slice ea en ec, .slice na nn nc, .slice pa pn pc] w fun e w' => e = .returned (.tuple #[.pointer none, .int .i64 (newE h L en nn pn)]) ∧ Below w.heap.size w w' := by
  unfold newE at hE ⊢
  by_cases k : ¬ Known h
  · rw [if_pos k]; exact spnew_10 h L ea na pa en ec nn nc pn pc w k
  · rw [if_neg k] at hE ⊢
    have k' := Classical.not_not.1 k
    by_cases h1 : L < 1 ∨ 16777216 < L
    · rw [if_pos h1]
      by_cases h1' : L < 1
      · exact spnew_2a h L ea na pa en ec nn nc pn pc w k' h1'
      · exact spnew_2b h L ea na pa en ec nn nc pn pc w k' h1' (by omega)
    · rw [if_neg h1] at hE ⊢
      by_cases h2 : en < 16 ∨ 65536 < en
      · rw [if_pos h2]
        by_cases h2' : en < 16
        · exact spnew_60a h L ea na pa en ec nn nc pn pc w k' (by omega) (by omega) h2'
        · exact spnew_60b h L ea na pa en ec nn nc pn pc w k' (by omega) (by omega) h2' (by omega)
      · rw [if_neg h2] at hE ⊢
        by_cases h3 : 65536 < nn ∨ 65536 < pn
        · rw [if_pos h3]
          by_cases h3' : 65536 < nn
          · exact spnew_4a h L ea na pa en ec nn nc pn pc w k' (by omega) (by omega) (by omega) (by omega) h3'
          · exact spnew_4b h L ea na pa en ec nn nc pn pc w k' (by omega) (by omega) (by omega) (by omega) h3' (by omega)
        · rw [if_neg h3] at hE; exact absurd rfl hE
end Go.Proofs.YtkeklmkaleomkaaDoor
namespace Go.Proofs.YtkeklmkaleomkaaDoor
open Go.RowKit
set_option linter.unusedVariables false
set_option linter.unusedSimpArgs false
theorem num_ok (x : Int) (w : World) : Calls Tryd.prog 10 #[.int .i64 x] w fun e w' => e = .returned (.int .i64 x) ∧ w' = w := by
  go_enter Tryd.func10, Tryd.ntmps10
  go_wp2
  go_ret
  exact ⟨rfl, rfl⟩
/-- A Seed in a block. -/
structure SeedAt (u : World) (s : Nat) (h L : Int) (x y z : Value) : Prop where
  c0 : u.cell? ⟨s, 0, none⟩ = some (.int .i64 h)
  c1 : u.cell? ⟨s, 1, none⟩ = some (.int .i64 L)
  c2 : u.cell? ⟨s, 2, none⟩ = some x
  c3 : u.cell? ⟨s, 3, none⟩ = some y
  c4 : u.cell? ⟨s, 4, none⟩ = some z
theorem SeedAt.blk {u v : World} {s : Nat} {h L : Int} {x y z : Value} (a : SeedAt u s h L x y z) (hb : v.heap[s]? = u.heap[s]?) : SeedAt v s h L x y z := by
  have hc : ∀ j, v.cell? ⟨s, j, none⟩ = u.cell? ⟨s, j, none⟩ := fun j => World.cell?_of_block (a := ⟨s, j, none⟩) hb
  exact ⟨by rw [hc]; exact a.c0, by rw [hc]; exact a.c1, by rw [hc]; exact a.c2, by rw [hc]; exact a.c3, by rw [hc]; exact a.c4⟩
theorem SeedAt.below {u v : World} {s : Nat} {h L : Int} {x y z : Value} (a : SeedAt u s h L x y z) (b : Below u.heap.size u v) : SeedAt v s h L x y z := a.blk (b.block s (lt_of_cell a.c0))
theorem SeedAt.new (w : World) (h L : Int) (x y z : Value) (t : TypeId) : SeedAt (w.alloc (.cells #[.int .i64 h, .int .i64 L, x, y, z] t)) w.heap.size h L x y z := by
  have r := rangeAt_new w #[.int .i64 h, .int .i64 L, x, y, z] t
  exact ⟨r 0 _ rfl, r 1 _ rfl, r 2 _ rfl, r 3 _ rfl, r 4 _ rfl⟩
/-- What Bytes leaves. -/
def CpP (u w' : World) (e : Ending) (n : Nat) (Z : List Int) : Prop := ∃ g c, e = .returned (.slice (some ⟨g, 0, none⟩) n c) ∧ u.heap.size ≤ g ∧ g < w'.heap.size ∧ Marked u.heap.size w' (.slice (some ⟨g, 0, none⟩) n c) Z ∧ Below u.heap.size u w'
theorem cp_ok (a : Option Addr) (n c : Nat) (Z : List Int) (u : World) (hv : View u (.slice a n c) Z) (hl : Z.length = n) (hn : n ≤ 262144) : Calls Tryd.prog 27 #[.slice a n c] u fun e w' => Hid (CpP u w' e n Z) := by
  refine (copy_any (.slice a n c) Z u (by omega) hv).mono ?_
  rintro e w' ⟨v', r1, r2, r3⟩
  obtain ⟨g, c', rfl, q1, q2, _⟩ := marked_owns r2
  rw [hl] at r1 r2
  exact ⟨g, c', r1, q1, q2, r2, r3⟩
/-- Only what lies above B changed. -/
theorem whole_ok (v1 v2 : Value) (zs : List Int) (B : Nat) (w : World) (h1 : Marked B w v1 zs) (h2 : View w v2 zs) :
    Calls Tryd.prog 29 #[v1, v2] w fun e w' => Hid (e = .returned (.bool true) ∧ Below w.heap.size w w') := by
  refine (whole_any v1 v2 zs B w h1 h2).mono ?_
  rintro e w' ⟨r1, m, rfl⟩
  exact ⟨r1, (Touch.refl w w.heap.size 0 0 |>.drewN m).os, (Touch.refl w w.heap.size 0 0 |>.drewN m).tape, (Touch.refl w w.heap.size 0 0 |>.drewN m).output, (Touch.refl w w.heap.size 0 0 |>.drewN m).size, fun q hq => (Touch.refl w w.heap.size 0 0 |>.drewN m).block q hq (by omega)⟩
theorem spoilm_ok (B n g c : Nat) (zs : List Int) (w : World) (hm : Marked B w (.slice (some ⟨g, 0, none⟩) n c) zs) (hl : zs.length = n) (hn : n ≤ 262144) (hB : B ≤ w.heap.size) :
    Calls Tryd.prog 21 #[.slice (some ⟨g, 0, none⟩) n c] w fun e w' => Hid (e = .returned (.tuple #[]) ∧ w.grownBy w' (some g)) := by
  obtain ⟨g', c', e1, q1, q2, q3⟩ := marked_owns hm
  rw [hl] at q3
  exact (spoil_any B n _ zs w (by omega) hB q3)
theorem Marked.blk {B : Nat} {w v : World} {g n c : Nat} {zs : List Int} (h : Marked B w (.slice (some ⟨g, 0, none⟩) n c) zs) (hb : v.heap[g]? = w.heap[g]?) : Marked B v (.slice (some ⟨g, 0, none⟩) n c) zs := by
  obtain ⟨g', c', e, hl, h⟩ := h
  injection e with e1 e2 e3
  injection e1 with e1
  injection e1 with e1 _
  subst e1 e3
  refine ⟨g, c, by rw [e2], hl, ?_⟩
  rcases h with ⟨h, _⟩ | ⟨g', c', cur, he, h1, h2, r⟩
  · cases h
  · have he' := he
    injection he with he1 _ _
    injection he1 with he1
    injection he1 with he1 _
    refine .inr ⟨g', c', cur, he', h1, ?_, r⟩
    rw [← he1, hb, he1]
    exact h2
/-- What spring.New leaves. -/
def NewP (w w' : World) (e : Ending) (h L : Int) (xs : List Int) : Prop := ∃ g, e = .returned (.tuple #[.pointer (some ⟨g, 0, none⟩), .int .i64 0]) ∧ w.heap.size ≤ g ∧ SpAt w' g h (updK h (fun _ => 0) (ones (szOf h)) xs) (updV h (fun _ => 0) (ones (szOf h)) xs) L 0 ∧ Below w.heap.size w w'
/-- Both springs behind begun. -/
structure Beg (w u : World) (B g t : Nat) (h L : Int) (xs : List Int) (ka va : Option Addr) (kc vc : Nat) : Prop where
  sp : SpAt u g h (updK h (fun _ => 0) (ones (szOf h)) xs) (updV h (fun _ => 0) (ones (szOf h)) xs) L 0
  rs : RSp u t h L 0 ka kc va vc (fL (updK h (fun _ => 0) (ones (szOf h)) xs) (szOf h)) (fL (updV h (fun _ => 0) (ones (szOf h)) xs) (szOf h))
  bel : Below w.heap.size w u
  gB : B ≤ g
  tG : g < t
  kG : ∀ b off, ka = some ⟨b, off, none⟩ → g < b ∧ b < u.heap.size
  vG : ∀ b off, va = some ⟨b, off, none⟩ → g < b ∧ b < u.heap.size
theorem Beg.below {w u v : World} {B g t : Nat} {h L : Int} {xs : List Int} {ka va : Option Addr} {kc vc : Nat} (a : Beg w u B g t h L xs ka va kc vc) (b : Below u.heap.size u v) (hw : w.heap.size ≤ B) : Beg w v B g t h L xs ka va kc vc :=
  ⟨a.sp.below b, a.rs.below b, a.bel.trans (b.mono (by have := a.sp.lt; have := a.gB; omega)), a.gB, a.tG, fun q off e => ⟨(a.kG q off e).1, Nat.lt_of_lt_of_le (a.kG q off e).2 b.size⟩, fun q off e => ⟨(a.vG q off e).1, Nat.lt_of_lt_of_le (a.vG q off e).2 b.size⟩⟩
theorem Beg.spoil {w u v : World} {B g t x : Nat} {h L : Int} {xs : List Int} {ka va : Option Addr} {kc vc : Nat} (a : Beg w u B g t h L xs ka va kc vc) (hg : u.grownBy v (some x)) (h1 : w.heap.size ≤ x) (h2 : x < B) : Beg w v B g t h L xs ka va kc vc := by
  have gB := a.gB
  have tG := a.tG
  have hlt := a.sp.lt
  have hlt2 := a.rs.lt
  have blk : ∀ b, b < u.heap.size → b ≠ x → v.heap[b]? = u.heap[b]? := fun b hb hne => hg.block b hb (fun e => hne (by injection e))
  have sz := hg.size
  exact ⟨a.sp.block (blk g hlt (by omega)), a.rs.blk (blk t hlt2 (by omega)) (fun b off e => blk b (a.kG b off e).2 (by have := a.kG b off e; omega)) (fun b off e => blk b (a.vG b off e).2 (by have := a.vG b off e; omega)), a.bel.grown hg a.bel.size (fun b hb => by injection hb with hb; omega), a.gB, a.tG, fun q off e => ⟨(a.kG q off e).1, Nat.lt_of_lt_of_le (a.kG q off e).2 sz⟩, fun q off e => ⟨(a.vG q off e).1, Nat.lt_of_lt_of_le (a.vG q off e).2 sz⟩⟩
def BegBad (w w' : World) (e : Ending) : Prop := e = .returned (.tuple #[.pointer none, .pointer none, .bool true]) ∧ Below w.heap.size w w'
def BegGood (w w' : World) (e : Ending) (h L : Int) (xs : List Int) : Prop := ∃ B g t ka va kc vc, e = .returned (.tuple #[.pointer (some ⟨g, 0, none⟩), .pointer (some ⟨t, 0, none⟩), .bool true]) ∧ w.heap.size ≤ B ∧ Beg w w' B g t h L xs ka va kc vc
theorem newE_range (h L : Int) (en nn pn : Nat) : 0 ≤ newE h L en nn pn ∧ newE h L en nn pn ≤ 60 := by
  unfold newE
  split
  · omega
  · split
    · omega
    · split
      · omega
      · split <;> omega
set_option maxHeartbeats 3200000 in
set_option maxRecDepth 100000 in
theorem begun_bad (h L : Int) (ea na pa : Option Addr) (en ec nn nc pn pc : Nat) (E N P : List Int) (w : World) (hT : Hid (Tables w)) (hR : Hid (RTab w)) (he : Hid (View w (.slice ea en ec) E)) (hel : Hid (E.length = en)) (hn : Hid (View w (.slice na nn nc) N)) (hnl : Hid (N.length = nn)) (hp : Hid (View w (.slice pa pn pc) P)) (hpl : Hid (P.length = pn)) (hs : en + nn + pn ≤ 262144) (hE : newE h L en nn pn ≠ 0) :
    Calls Tryd.prog 17 #[.agg #[.int .i64 h, .int .i64 L, .slice ea en ec, .slice na nn nc, .slice pa pn pc]] w fun e w' => Hid (BegBad w w' e) := by
  have hT4 := hT.out.size
  go_enter Tryd.func17, Tryd.ntmps17
  go_upto_region 1 with fail
  have HA0 : Hid (SeedAt (w.alloc (.cells #[.int .i64 h, .int .i64 L, .slice ea en ec, .slice na nn nc, .slice pa pn pc] 24)) w.heap.size h L (.slice ea en ec) (.slice na nn nc) (.slice pa pn pc) ∧ Below w.heap.size w (w.alloc (.cells #[.int .i64 h, .int .i64 L, .slice ea en ec, .slice na nn nc, .slice pa pn pc] 24)) ∧ (w.alloc (.cells #[.int .i64 h, .int .i64 L, .slice ea en ec, .slice na nn nc, .slice pa pn pc] 24)).heap.size = w.heap.size + 1) := ⟨SeedAt.new _ _ _ _ _ _ _, below_alloc1 _ _, size_alloc1 _ _⟩
  generalize w.alloc (.cells #[.int .i64 h, .int .i64 L, .slice ea en ec, .slice na nn nc, .slice pa pn pc] 24) = w0 at HA0 ⊢
  have c2 := HA0.out.1.c2
  have H1 : Hid (Calls Tryd.prog 27 #[.slice ea en ec] w0 fun e w' => Hid (CpP w0 w' e en E)) := cp_ok ea en ec E w0 (he.out.kept fun q hq => HA0.out.2.1.block q hq) hel.out (by omega)
  go_upto_region 2 with (go_at_call 27; refine H1.out.mono ?_; intro e1 w1 hh; obtain ⟨gx, cx, rfl, hx1, hx2, hx3, hx4⟩ := hh.out)
  have HX1 : Hid (w0.heap.size ≤ gx ∧ gx < w1.heap.size ∧ Marked w0.heap.size w1 (.slice (some ⟨gx, 0, none⟩) en cx) E ∧ Below w0.heap.size w0 w1) := ⟨hx1, hx2, hx3, hx4⟩
  have HB1 : Hid (Below w.heap.size w w1) := HA0.out.2.1.trans (hx4.mono HA0.out.2.1.size)
  have HA1 : Hid (SeedAt w1 w.heap.size h L (.slice ea en ec) (.slice na nn nc) (.slice pa pn pc)) := HA0.out.1.below hx4
  clear hh hx1 hx2 hx3 hx4 H1 c2
  have c3 := HA1.out.c3
  have H2 : Hid (Calls Tryd.prog 27 #[.slice na nn nc] w1 fun e w' => Hid (CpP w1 w' e nn N)) := cp_ok na nn nc N w1 (hn.out.kept fun q hq => HB1.out.block q hq) hnl.out (by omega)
  go_upto_region 3 with (go_at_call 27; refine H2.out.mono ?_; intro e2 w2 hh; obtain ⟨gy, cy, rfl, hx1, hx2, hx3, hx4⟩ := hh.out)
  have HY2 : Hid (w1.heap.size ≤ gy ∧ gy < w2.heap.size ∧ Marked w1.heap.size w2 (.slice (some ⟨gy, 0, none⟩) nn cy) N ∧ Below w1.heap.size w1 w2) := ⟨hx1, hx2, hx3, hx4⟩
  have HB2 : Hid (Below w.heap.size w w2) := HB1.out.trans (hx4.mono HB1.out.size)
  have HA2 : Hid (SeedAt w2 w.heap.size h L (.slice ea en ec) (.slice na nn nc) (.slice pa pn pc)) := HA1.out.below hx4
  clear hh hx1 hx2 hx3 hx4 H2 c3
  have c4 := HA2.out.c4
  have H3 : Hid (Calls Tryd.prog 27 #[.slice pa pn pc] w2 fun e w' => Hid (CpP w2 w' e pn P)) := cp_ok pa pn pc P w2 (hp.out.kept fun q hq => HB2.out.block q hq) hpl.out (by omega)
  go_upto_region 4 with (go_at_call 27; refine H3.out.mono ?_; intro e3 w3 hh; obtain ⟨gz, cz, rfl, hx1, hx2, hx3, hx4⟩ := hh.out)
  have HZ3 : Hid (w2.heap.size ≤ gz ∧ gz < w3.heap.size ∧ Marked w2.heap.size w3 (.slice (some ⟨gz, 0, none⟩) pn cz) P ∧ Below w2.heap.size w2 w3) := ⟨hx1, hx2, hx3, hx4⟩
  have HB3 : Hid (Below w.heap.size w w3) := HB2.out.trans (hx4.mono HB2.out.size)
  have HA3 : Hid (SeedAt w3 w.heap.size h L (.slice ea en ec) (.slice na nn nc) (.slice pa pn pc)) := HA2.out.below hx4
  clear hh hx1 hx2 hx3 hx4 H3 c4
  have HO : Hid (w.heap.size < gx ∧ gx < gy ∧ gy < gz ∧ gz < w3.heap.size) := by
    have h1 := HX1.out; have h2 := HY2.out; have h3 := HZ3.out; have h0 := HA0.out.2.2
    exact ⟨by omega, by omega, by omega, by omega⟩
  have HM3 : Hid (Marked w0.heap.size w3 (.slice (some ⟨gx, 0, none⟩) en cx) E ∧ Marked w1.heap.size w3 (.slice (some ⟨gy, 0, none⟩) nn cy) N ∧ Marked w2.heap.size w3 (.slice (some ⟨gz, 0, none⟩) pn cz) P ∧ w0.heap.size ≤ w3.heap.size ∧ w1.heap.size ≤ w3.heap.size ∧ w2.heap.size ≤ w3.heap.size) := by
    have s1 := HX1.out.2.2.2.size; have s2 := HY2.out.2.2.2.size; have s3 := HZ3.out.2.2.2.size
    exact ⟨(HX1.out.2.2.1.kept fun q hq => HY2.out.2.2.2.block q hq).kept fun q hq => HZ3.out.2.2.2.block q hq, HY2.out.2.2.1.kept fun q hq => HZ3.out.2.2.2.block q hq, HZ3.out.2.2.1, by omega, by omega, by omega⟩
  clear HX1 HY2 HZ3 HA0 HA1 HA2 HB1 HB2
  have c0 := HA3.out.c0
  have c1 := HA3.out.c1
  obtain ⟨x, HX⟩ : ∃ x, Hid (x = newE h L en nn pn) := ⟨_, rfl⟩
  have H9 : Hid (Calls Tryd.prog 9 #[.int .i64 h, .int .i64 L, .slice (some ⟨gx, 0, none⟩) en cx, .slice (some ⟨gy, 0, none⟩) nn cy, .slice (some ⟨gz, 0, none⟩) pn cz] w3 fun e w' => Hid (e = .returned (.tuple #[.pointer none, .int .i64 x]) ∧ Below w3.heap.size w3 w')) := by
    rw [HX.out]
    exact spnew_bad h L _ _ _ en cx nn cy pn cz w3 hE
  have H28 : Hid (∀ u, Calls Tryd.prog 28 #[.int .i64 h, .int .i64 L, .slice ea en ec, .slice na nn nc, .slice pa pn pc] u fun e w' => e = .returned (.tuple #[.pointer none, .int .i64 x]) ∧ w' = u) := by
    rw [HX.out]
    exact fun u => rnew_bad h L _ _ _ en ec nn nc pn pc u hE
  go_upto_region 5 with (go_at_call 9; refine H9.out.mono ?_; intro e4 w5 hh; obtain ⟨rfl, hb5⟩ := hh.out)
  have HA5 : Hid (SeedAt w5 w.heap.size h L (.slice ea en ec) (.slice na nn nc) (.slice pa pn pc)) := HA3.out.below hb5
  have HM5 : Hid (Marked w0.heap.size w5 (.slice (some ⟨gx, 0, none⟩) en cx) E ∧ Marked w1.heap.size w5 (.slice (some ⟨gy, 0, none⟩) nn cy) N ∧ Marked w2.heap.size w5 (.slice (some ⟨gz, 0, none⟩) pn cz) P ∧ w0.heap.size ≤ w5.heap.size ∧ w1.heap.size ≤ w5.heap.size ∧ w2.heap.size ≤ w5.heap.size) := by
    have s := hb5.size
    obtain ⟨m1, m2, m3, m4, m5, m6⟩ := HM3.out
    exact ⟨m1.kept fun q hq => hb5.block q hq, m2.kept fun q hq => hb5.block q hq, m3.kept fun q hq => hb5.block q hq, by omega, by omega, by omega⟩
  have HB5 : Hid (Below w.heap.size w w5) := HB3.out.trans (hb5.mono HB3.out.size)
  have HS5 : Hid (w3.heap.size ≤ w5.heap.size) := hb5.size
  clear hh hb5 H9 c0 c1
  have c0 := HA5.out.c0
  have c1 := HA5.out.c1
  have c2 := HA5.out.c2
  have c3 := HA5.out.c3
  have c4 := HA5.out.c4
  go_upto_region 6 with (go_at_call 28; refine (H28.out _).mono ?_; rintro e5 w6 ⟨rfl, hw6⟩; obtain rfl := hw6.symm)
  clear c0 c1 c3 c4 H28
  have c2 := HA5.out.c2
  have HW1 : Hid (Calls Tryd.prog 29 #[.slice (some ⟨gx, 0, none⟩) en cx, .slice ea en ec] w5 fun e w' => Hid (e = .returned (.bool true) ∧ Below w5.heap.size w5 w')) := whole_ok _ _ E _ w5 HM5.out.1 (he.out.kept fun q hq => HB5.out.block q hq)
  go_wp2_with (first | (go_at_call 10; refine (num_ok _ _).mono ?_; rintro e6 w6 ⟨rfl, hw6⟩; obtain rfl := hw6.symm) | (go_at_call 29; refine HW1.out.mono ?_))
  intro e6 w6 hh
  obtain ⟨rfl, hb6⟩ := hh.out
  have HA6 : Hid (SeedAt w6 w.heap.size h L (.slice ea en ec) (.slice na nn nc) (.slice pa pn pc)) := HA5.out.below hb6
  have HM6 : Hid (Marked w0.heap.size w6 (.slice (some ⟨gx, 0, none⟩) en cx) E ∧ Marked w1.heap.size w6 (.slice (some ⟨gy, 0, none⟩) nn cy) N ∧ Marked w2.heap.size w6 (.slice (some ⟨gz, 0, none⟩) pn cz) P ∧ w0.heap.size ≤ w6.heap.size ∧ w1.heap.size ≤ w6.heap.size ∧ w2.heap.size ≤ w6.heap.size) := by
    have s := hb6.size
    obtain ⟨m1, m2, m3, m4, m5, m6⟩ := HM5.out
    exact ⟨m1.kept fun q hq => hb6.block q hq, m2.kept fun q hq => hb6.block q hq, m3.kept fun q hq => hb6.block q hq, by omega, by omega, by omega⟩
  have HB6 : Hid (Below w.heap.size w w6) := HB5.out.trans (hb6.mono HB5.out.size)
  have HS56 : Hid (w5.heap.size ≤ w6.heap.size) := hb6.size
  clear hh hb6 HA5 HM5 HB5  c2 HW1
  have c3 := HA6.out.c3
  have HW2 : Hid (Calls Tryd.prog 29 #[.slice (some ⟨gy, 0, none⟩) nn cy, .slice na nn nc] w6 fun e w' => Hid (e = .returned (.bool true) ∧ Below w6.heap.size w6 w')) := whole_ok _ _ N _ w6 HM6.out.2.1 (hn.out.kept fun q hq => HB6.out.block q hq)
  go_wp2_with (go_at_call 29; refine HW2.out.mono ?_)
  intro e7 w7 hh
  obtain ⟨rfl, hb7⟩ := hh.out
  have HA7 : Hid (SeedAt w7 w.heap.size h L (.slice ea en ec) (.slice na nn nc) (.slice pa pn pc)) := HA6.out.below hb7
  have HM7 : Hid (Marked w0.heap.size w7 (.slice (some ⟨gx, 0, none⟩) en cx) E ∧ Marked w1.heap.size w7 (.slice (some ⟨gy, 0, none⟩) nn cy) N ∧ Marked w2.heap.size w7 (.slice (some ⟨gz, 0, none⟩) pn cz) P ∧ w0.heap.size ≤ w7.heap.size ∧ w1.heap.size ≤ w7.heap.size ∧ w2.heap.size ≤ w7.heap.size) := by
    have s := hb7.size
    obtain ⟨m1, m2, m3, m4, m5, m6⟩ := HM6.out
    exact ⟨m1.kept fun q hq => hb7.block q hq, m2.kept fun q hq => hb7.block q hq, m3.kept fun q hq => hb7.block q hq, by omega, by omega, by omega⟩
  have HB7 : Hid (Below w.heap.size w w7) := HB6.out.trans (hb7.mono HB6.out.size)
  have HS57 : Hid (w5.heap.size ≤ w7.heap.size) := Nat.le_trans HS56.out hb7.size
  clear hh hb7 HA6 HM6 HB6  c3 HW2
  have c4 := HA7.out.c4
  have HW3 : Hid (Calls Tryd.prog 29 #[.slice (some ⟨gz, 0, none⟩) pn cz, .slice pa pn pc] w7 fun e w' => Hid (e = .returned (.bool true) ∧ Below w7.heap.size w7 w')) := whole_ok _ _ P _ w7 HM7.out.2.2.1 (hp.out.kept fun q hq => HB7.out.block q hq)
  go_wp2_with (go_at_call 29; refine HW3.out.mono ?_)
  intro e8 w8 hh
  obtain ⟨rfl, hb8⟩ := hh.out
  have HM8 : Hid (Marked w0.heap.size w8 (.slice (some ⟨gx, 0, none⟩) en cx) E ∧ Marked w1.heap.size w8 (.slice (some ⟨gy, 0, none⟩) nn cy) N ∧ Marked w2.heap.size w8 (.slice (some ⟨gz, 0, none⟩) pn cz) P ∧ w0.heap.size ≤ w8.heap.size ∧ w1.heap.size ≤ w8.heap.size ∧ w2.heap.size ≤ w8.heap.size) := by
    have s := hb8.size
    obtain ⟨m1, m2, m3, m4, m5, m6⟩ := HM7.out
    exact ⟨m1.kept fun q hq => hb8.block q hq, m2.kept fun q hq => hb8.block q hq, m3.kept fun q hq => hb8.block q hq, by omega, by omega, by omega⟩
  have HB8 : Hid (Below w.heap.size w w8 ∧ w3.heap.size ≤ w8.heap.size) := ⟨HB7.out.trans (hb8.mono HB7.out.size), Nat.le_trans HS5.out (Nat.le_trans HS57.out hb8.size)⟩
  clear hh hb8 HA7 HM7 HB7  c4 HW3
  have HSx0 : Hid (Calls Tryd.prog 21 #[.slice (some ⟨gx, 0, none⟩) en cx] w8 fun e w' => Hid (e = .returned (.tuple #[]) ∧ w8.grownBy w' (some gx))) := spoilm_ok _ en gx cx E w8 HM8.out.1 hel.out (by omega) HM8.out.2.2.2.1
  go_upto_region 8 with (go_at_call 21; refine HSx0.out.mono ?_; intro e9 w9 hh; obtain ⟨rfl, hg9⟩ := hh.out)
  have HB9 : Hid (Below w.heap.size w w9 ∧ w3.heap.size ≤ w9.heap.size) := ⟨HB8.out.1.grown hg9 HB8.out.1.size (fun b hb => by injection hb with hb; have := HO.out; omega), Nat.le_trans HB8.out.2 hg9.size⟩
  have HM9 : Hid (Marked w1.heap.size w9 (.slice (some ⟨gy, 0, none⟩) nn cy) N ∧ Marked w2.heap.size w9 (.slice (some ⟨gz, 0, none⟩) pn cz) P ∧ w1.heap.size ≤ w9.heap.size ∧ w2.heap.size ≤ w9.heap.size) := by
    have s := hg9.size
    have ho := HO.out
    have hz := HB8.out.2
    obtain ⟨m1, m2, m3, m4, m5, m6⟩ := HM8.out
    exact ⟨m2.blk (hg9.block gy (by omega) (fun e => by injection e with e; omega)), m3.blk (hg9.block gz (by omega) (fun e => by injection e with e; omega)), by omega, by omega⟩
  clear hh hg9 HSx0 HM8 HB8 
  have HSx1 : Hid (Calls Tryd.prog 21 #[.slice (some ⟨gy, 0, none⟩) nn cy] w9 fun e w' => Hid (e = .returned (.tuple #[]) ∧ w9.grownBy w' (some gy))) := spoilm_ok _ nn gy cy N w9 HM9.out.1 hnl.out (by omega) HM9.out.2.2.1
  go_upto_region 9 with (go_at_call 21; refine HSx1.out.mono ?_; intro e10 w10 hh; obtain ⟨rfl, hg10⟩ := hh.out)
  have HB10 : Hid (Below w.heap.size w w10 ∧ w3.heap.size ≤ w10.heap.size) := ⟨HB9.out.1.grown hg10 HB9.out.1.size (fun b hb => by injection hb with hb; have := HO.out; omega), Nat.le_trans HB9.out.2 hg10.size⟩
  have HM10 : Hid (Marked w2.heap.size w10 (.slice (some ⟨gz, 0, none⟩) pn cz) P ∧ w2.heap.size ≤ w10.heap.size) := by
    have s := hg10.size
    have ho := HO.out
    have hz := HB9.out.2
    obtain ⟨m2, m3, m5, m6⟩ := HM9.out
    exact ⟨m3.blk (hg10.block gz (by omega) (fun e => by injection e with e; omega)), by omega⟩
  clear hh hg10 HSx1 HM9 HB9 
  have HSx2 : Hid (Calls Tryd.prog 21 #[.slice (some ⟨gz, 0, none⟩) pn cz] w10 fun e w' => Hid (e = .returned (.tuple #[]) ∧ w10.grownBy w' (some gz))) := spoilm_ok _ pn gz cz P w10 HM10.out.1 hpl.out (by omega) HM10.out.2
  go_upto_region 10 with (go_at_call 21; refine HSx2.out.mono ?_; intro e11 w11 hh; obtain ⟨rfl, hg11⟩ := hh.out)
  have HB11 : Hid (Below w.heap.size w w11 ∧ w3.heap.size ≤ w11.heap.size) := ⟨HB10.out.1.grown hg11 HB10.out.1.size (fun b hb => by injection hb with hb; have := HO.out; omega), Nat.le_trans HB10.out.2 hg11.size⟩
  clear hh hg11 HSx2 HM10 HB10 
  go_wp2
  go_ret3
  exact ⟨rfl, HB11.out.1⟩
set_option maxHeartbeats 3200000 in
set_option maxRecDepth 100000 in
theorem begun_good (h L : Int) (ea na pa : Option Addr) (en ec nn nc pn pc : Nat) (E N P : List Int) (w : World) (hT : Hid (Tables w)) (hR : Hid (RTab w)) (he : Hid (View w (.slice ea en ec) E)) (hel : Hid (E.length = en)) (hn : Hid (View w (.slice na nn nc) N)) (hnl : Hid (N.length = nn)) (hp : Hid (View w (.slice pa pn pc) P)) (hpl : Hid (P.length = pn)) (hs : en + nn + pn ≤ 262144) (hE : newE h L en nn pn = 0) :
    Calls Tryd.prog 17 #[.agg #[.int .i64 h, .int .i64 L, .slice ea en ec, .slice na nn nc, .slice pa pn pc]] w fun e w' => Hid (BegGood w w' e h L (E ++ (N ++ P))) := by
  have hT4 := hT.out.size
  go_enter Tryd.func17, Tryd.ntmps17
  go_upto_region 1 with fail
  have HA0 : Hid (SeedAt (w.alloc (.cells #[.int .i64 h, .int .i64 L, .slice ea en ec, .slice na nn nc, .slice pa pn pc] 24)) w.heap.size h L (.slice ea en ec) (.slice na nn nc) (.slice pa pn pc) ∧ Below w.heap.size w (w.alloc (.cells #[.int .i64 h, .int .i64 L, .slice ea en ec, .slice na nn nc, .slice pa pn pc] 24)) ∧ (w.alloc (.cells #[.int .i64 h, .int .i64 L, .slice ea en ec, .slice na nn nc, .slice pa pn pc] 24)).heap.size = w.heap.size + 1) := ⟨SeedAt.new _ _ _ _ _ _ _, below_alloc1 _ _, size_alloc1 _ _⟩
  generalize w.alloc (.cells #[.int .i64 h, .int .i64 L, .slice ea en ec, .slice na nn nc, .slice pa pn pc] 24) = w0 at HA0 ⊢
  have c2 := HA0.out.1.c2
  have H1 : Hid (Calls Tryd.prog 27 #[.slice ea en ec] w0 fun e w' => Hid (CpP w0 w' e en E)) := cp_ok ea en ec E w0 (he.out.kept fun q hq => HA0.out.2.1.block q hq) hel.out (by omega)
  go_upto_region 2 with (go_at_call 27; refine H1.out.mono ?_; intro e1 w1 hh; obtain ⟨gx, cx, rfl, hx1, hx2, hx3, hx4⟩ := hh.out)
  have HX1 : Hid (w0.heap.size ≤ gx ∧ gx < w1.heap.size ∧ Marked w0.heap.size w1 (.slice (some ⟨gx, 0, none⟩) en cx) E ∧ Below w0.heap.size w0 w1) := ⟨hx1, hx2, hx3, hx4⟩
  have HB1 : Hid (Below w.heap.size w w1) := HA0.out.2.1.trans (hx4.mono HA0.out.2.1.size)
  have HA1 : Hid (SeedAt w1 w.heap.size h L (.slice ea en ec) (.slice na nn nc) (.slice pa pn pc)) := HA0.out.1.below hx4
  clear hh hx1 hx2 hx3 hx4 H1 c2
  have c3 := HA1.out.c3
  have H2 : Hid (Calls Tryd.prog 27 #[.slice na nn nc] w1 fun e w' => Hid (CpP w1 w' e nn N)) := cp_ok na nn nc N w1 (hn.out.kept fun q hq => HB1.out.block q hq) hnl.out (by omega)
  go_upto_region 3 with (go_at_call 27; refine H2.out.mono ?_; intro e2 w2 hh; obtain ⟨gy, cy, rfl, hx1, hx2, hx3, hx4⟩ := hh.out)
  have HY2 : Hid (w1.heap.size ≤ gy ∧ gy < w2.heap.size ∧ Marked w1.heap.size w2 (.slice (some ⟨gy, 0, none⟩) nn cy) N ∧ Below w1.heap.size w1 w2) := ⟨hx1, hx2, hx3, hx4⟩
  have HB2 : Hid (Below w.heap.size w w2) := HB1.out.trans (hx4.mono HB1.out.size)
  have HA2 : Hid (SeedAt w2 w.heap.size h L (.slice ea en ec) (.slice na nn nc) (.slice pa pn pc)) := HA1.out.below hx4
  clear hh hx1 hx2 hx3 hx4 H2 c3
  have c4 := HA2.out.c4
  have H3 : Hid (Calls Tryd.prog 27 #[.slice pa pn pc] w2 fun e w' => Hid (CpP w2 w' e pn P)) := cp_ok pa pn pc P w2 (hp.out.kept fun q hq => HB2.out.block q hq) hpl.out (by omega)
  go_upto_region 4 with (go_at_call 27; refine H3.out.mono ?_; intro e3 w3 hh; obtain ⟨gz, cz, rfl, hx1, hx2, hx3, hx4⟩ := hh.out)
  have HZ3 : Hid (w2.heap.size ≤ gz ∧ gz < w3.heap.size ∧ Marked w2.heap.size w3 (.slice (some ⟨gz, 0, none⟩) pn cz) P ∧ Below w2.heap.size w2 w3) := ⟨hx1, hx2, hx3, hx4⟩
  have HB3 : Hid (Below w.heap.size w w3) := HB2.out.trans (hx4.mono HB2.out.size)
  have HA3 : Hid (SeedAt w3 w.heap.size h L (.slice ea en ec) (.slice na nn nc) (.slice pa pn pc)) := HA2.out.below hx4
  clear hh hx1 hx2 hx3 hx4 H3 c4
  have HO : Hid (w.heap.size < gx ∧ gx < gy ∧ gy < gz ∧ gz < w3.heap.size) := by
    have h1 := HX1.out; have h2 := HY2.out; have h3 := HZ3.out; have h0 := HA0.out.2.2
    exact ⟨by omega, by omega, by omega, by omega⟩
  have HM3 : Hid (Marked w0.heap.size w3 (.slice (some ⟨gx, 0, none⟩) en cx) E ∧ Marked w1.heap.size w3 (.slice (some ⟨gy, 0, none⟩) nn cy) N ∧ Marked w2.heap.size w3 (.slice (some ⟨gz, 0, none⟩) pn cz) P ∧ w0.heap.size ≤ w3.heap.size ∧ w1.heap.size ≤ w3.heap.size ∧ w2.heap.size ≤ w3.heap.size) := by
    have s1 := HX1.out.2.2.2.size; have s2 := HY2.out.2.2.2.size; have s3 := HZ3.out.2.2.2.size
    exact ⟨(HX1.out.2.2.1.kept fun q hq => HY2.out.2.2.2.block q hq).kept fun q hq => HZ3.out.2.2.2.block q hq, HY2.out.2.2.1.kept fun q hq => HZ3.out.2.2.2.block q hq, HZ3.out.2.2.1, by omega, by omega, by omega⟩
  clear HX1 HY2 HZ3 HA0 HA1 HA2 HB1 HB2
  have c0 := HA3.out.c0
  have c1 := HA3.out.c1
  obtain ⟨k, hL1, hL2, he1, he2, hn2, hp2⟩ := newE_zero hE
  have HX5 : Hid (∀ u, View u (.slice ea en ec) E → View u (.slice na nn nc) N → View u (.slice pa pn pc) P → RTab u → 4 ≤ u.heap.size → Calls Tryd.prog 28 #[.int .i64 h, .int .i64 L, .slice ea en ec, .slice na nn nc, .slice pa pn pc] u fun e w' => Hid (RNewP u w' e h L (E ++ (N ++ P)))) := fun u v1 v2 v3 hr h4 => rnew_ok h L ea na pa en ec nn nc pn pc E N P u k hr hL1 hL2 v1 hel v2 hnl v3 hpl he1 he2 hn2 hp2 h4
  have H9 : Hid (Calls Tryd.prog 9 #[.int .i64 h, .int .i64 L, .slice (some ⟨gx, 0, none⟩) en cx, .slice (some ⟨gy, 0, none⟩) nn cy, .slice (some ⟨gz, 0, none⟩) pn cz] w3 fun e w' => Hid (NewP w3 w' e h L (E ++ (N ++ P)))) := by
    exact spnew h L _ _ _ en cx nn cy pn cz E N P w3 k (hT.out.below HB3.out hT4) hL1 hL2 HM3.out.1.view hel HM3.out.2.1.view hnl HM3.out.2.2.1.view hpl he1 he2 hn2 hp2
  go_upto_region 5 with (go_at_call 9; refine H9.out.mono ?_; intro e4 w4 hh; obtain ⟨g, rfl, hg1, hg2, hb4⟩ := hh.out)
  have HG4 : Hid (w3.heap.size ≤ g ∧ SpAt w4 g h (updK h (fun _ => 0) (ones (szOf h)) (E ++ (N ++ P))) (updV h (fun _ => 0) (ones (szOf h)) (E ++ (N ++ P))) L 0 ∧ Below w3.heap.size w3 w4) := ⟨hg1, hg2, hb4⟩
  have HA4 : Hid (SeedAt w4 w.heap.size h L (.slice ea en ec) (.slice na nn nc) (.slice pa pn pc)) := HA3.out.below hb4
  have HB4 : Hid (Below w.heap.size w w4) := HB3.out.trans (hb4.mono HB3.out.size)
  clear hh hg1 hg2 hb4 H9 c0 c1
  have c0 := HA4.out.c0
  have c1 := HA4.out.c1
  have c2 := HA4.out.c2
  have c3 := HA4.out.c3
  have c4 := HA4.out.c4
  have hs4 := HB4.out.size
  have H28 : Hid (Calls Tryd.prog 28 #[.int .i64 h, .int .i64 L, .slice ea en ec, .slice na nn nc, .slice pa pn pc] w4 fun e w' => Hid (RNewP w4 w' e h L (E ++ (N ++ P)))) := HX5.out w4 (he.out.kept fun q hq => HB4.out.block q hq) (hn.out.kept fun q hq => HB4.out.block q hq) (hp.out.kept fun q hq => HB4.out.block q hq) (hR.out.below HB4.out (by have := hR.out.size; omega)) (by omega)
  go_upto_region 6 with (go_at_call 28; refine H28.out.mono ?_; intro e5 w5 hh; obtain ⟨t, ka, kc, va, vc, rfl, r1, r2, r3, hb5⟩ := hh.out)
  have HP5 : Hid (Beg w w5 w3.heap.size g t h L (E ++ (N ++ P)) ka va kc vc) := by
    have gl := HG4.out.2.1.lt
    have hk1 : 0 < (fL (updK h (fun _ => 0) (ones (szOf h)) (E ++ (N ++ P))) (szOf h)).length := by rw [fL_length]; exact (szOf_pos k).1
    have hv1 : 0 < (fL (updV h (fun _ => 0) (ones (szOf h)) (E ++ (N ++ P))) (szOf h)).length := by rw [fL_length]; exact (szOf_pos k).1
    refine ⟨HG4.out.2.1.below hb5, r2, HB4.out.trans (hb5.mono HB4.out.size), HG4.out.1, by omega, fun b off e => ⟨by have := r3.1 b off e; omega, ?_⟩, fun b off e => ⟨by have := r3.2 b off e; omega, ?_⟩⟩
    · have q := r2.vK; rw [e] at q; exact view_blk_lt q hk1
    · have q := r2.vV; rw [e] at q; exact view_blk_lt q hv1
  have HA5 : Hid (SeedAt w5 w.heap.size h L (.slice ea en ec) (.slice na nn nc) (.slice pa pn pc)) := HA4.out.below hb5
  have HM5 : Hid (Marked w0.heap.size w5 (.slice (some ⟨gx, 0, none⟩) en cx) E ∧ Marked w1.heap.size w5 (.slice (some ⟨gy, 0, none⟩) nn cy) N ∧ Marked w2.heap.size w5 (.slice (some ⟨gz, 0, none⟩) pn cz) P ∧ w0.heap.size ≤ w5.heap.size ∧ w1.heap.size ≤ w5.heap.size ∧ w2.heap.size ≤ w5.heap.size) := by
    have s := hb5.size
    have s4 := HG4.out.2.2.size
    obtain ⟨m1, m2, m3, m4, m5, m6⟩ := HM3.out
    have hk : ∀ q, q < w3.heap.size → w5.heap[q]? = w3.heap[q]? := fun q hq => (hb5.block q (by omega)).trans (HG4.out.2.2.block q hq)
    exact ⟨m1.kept hk, m2.kept hk, m3.kept hk, by omega, by omega, by omega⟩
  have HB5 : Hid (Below w.heap.size w w5) := HB4.out.trans (hb5.mono HB4.out.size)
  have HS5 : Hid (w3.heap.size ≤ w5.heap.size) := Nat.le_trans HG4.out.2.2.size hb5.size
  clear hh r1 r2 r3 hb5 H28 HX5 HA4 HB4 HG4 c0 c1 c2 c3 c4 hs4
  have c2 := HA5.out.c2
  have HW1 : Hid (Calls Tryd.prog 29 #[.slice (some ⟨gx, 0, none⟩) en cx, .slice ea en ec] w5 fun e w' => Hid (e = .returned (.bool true) ∧ Below w5.heap.size w5 w')) := whole_ok _ _ E _ w5 HM5.out.1 (he.out.kept fun q hq => HB5.out.block q hq)
  go_wp2_with (first | (go_at_call 10; refine (num_ok _ _).mono ?_; rintro e6 w6 ⟨rfl, hw6⟩; obtain rfl := hw6.symm) | (go_at_call 29; refine HW1.out.mono ?_))
  intro e6 w6 hh
  obtain ⟨rfl, hb6⟩ := hh.out
  have HA6 : Hid (SeedAt w6 w.heap.size h L (.slice ea en ec) (.slice na nn nc) (.slice pa pn pc)) := HA5.out.below hb6
  have HM6 : Hid (Marked w0.heap.size w6 (.slice (some ⟨gx, 0, none⟩) en cx) E ∧ Marked w1.heap.size w6 (.slice (some ⟨gy, 0, none⟩) nn cy) N ∧ Marked w2.heap.size w6 (.slice (some ⟨gz, 0, none⟩) pn cz) P ∧ w0.heap.size ≤ w6.heap.size ∧ w1.heap.size ≤ w6.heap.size ∧ w2.heap.size ≤ w6.heap.size) := by
    have s := hb6.size
    obtain ⟨m1, m2, m3, m4, m5, m6⟩ := HM5.out
    exact ⟨m1.kept fun q hq => hb6.block q hq, m2.kept fun q hq => hb6.block q hq, m3.kept fun q hq => hb6.block q hq, by omega, by omega, by omega⟩
  have HB6 : Hid (Below w.heap.size w w6) := HB5.out.trans (hb6.mono HB5.out.size)
  have HP6 : Hid (Beg w w6 w3.heap.size g t h L (E ++ (N ++ P)) ka va kc vc) := HP5.out.below hb6 HB3.out.size
  have HS56 : Hid (w5.heap.size ≤ w6.heap.size) := hb6.size
  clear hh hb6 HA5 HM5 HB5 HP5 c2 HW1
  have c3 := HA6.out.c3
  have HW2 : Hid (Calls Tryd.prog 29 #[.slice (some ⟨gy, 0, none⟩) nn cy, .slice na nn nc] w6 fun e w' => Hid (e = .returned (.bool true) ∧ Below w6.heap.size w6 w')) := whole_ok _ _ N _ w6 HM6.out.2.1 (hn.out.kept fun q hq => HB6.out.block q hq)
  go_wp2_with (go_at_call 29; refine HW2.out.mono ?_)
  intro e7 w7 hh
  obtain ⟨rfl, hb7⟩ := hh.out
  have HA7 : Hid (SeedAt w7 w.heap.size h L (.slice ea en ec) (.slice na nn nc) (.slice pa pn pc)) := HA6.out.below hb7
  have HM7 : Hid (Marked w0.heap.size w7 (.slice (some ⟨gx, 0, none⟩) en cx) E ∧ Marked w1.heap.size w7 (.slice (some ⟨gy, 0, none⟩) nn cy) N ∧ Marked w2.heap.size w7 (.slice (some ⟨gz, 0, none⟩) pn cz) P ∧ w0.heap.size ≤ w7.heap.size ∧ w1.heap.size ≤ w7.heap.size ∧ w2.heap.size ≤ w7.heap.size) := by
    have s := hb7.size
    obtain ⟨m1, m2, m3, m4, m5, m6⟩ := HM6.out
    exact ⟨m1.kept fun q hq => hb7.block q hq, m2.kept fun q hq => hb7.block q hq, m3.kept fun q hq => hb7.block q hq, by omega, by omega, by omega⟩
  have HB7 : Hid (Below w.heap.size w w7) := HB6.out.trans (hb7.mono HB6.out.size)
  have HP7 : Hid (Beg w w7 w3.heap.size g t h L (E ++ (N ++ P)) ka va kc vc) := HP6.out.below hb7 HB3.out.size
  have HS57 : Hid (w5.heap.size ≤ w7.heap.size) := Nat.le_trans HS56.out hb7.size
  clear hh hb7 HA6 HM6 HB6 HP6 c3 HW2
  have c4 := HA7.out.c4
  have HW3 : Hid (Calls Tryd.prog 29 #[.slice (some ⟨gz, 0, none⟩) pn cz, .slice pa pn pc] w7 fun e w' => Hid (e = .returned (.bool true) ∧ Below w7.heap.size w7 w')) := whole_ok _ _ P _ w7 HM7.out.2.2.1 (hp.out.kept fun q hq => HB7.out.block q hq)
  go_wp2_with (go_at_call 29; refine HW3.out.mono ?_)
  intro e8 w8 hh
  obtain ⟨rfl, hb8⟩ := hh.out
  have HM8 : Hid (Marked w0.heap.size w8 (.slice (some ⟨gx, 0, none⟩) en cx) E ∧ Marked w1.heap.size w8 (.slice (some ⟨gy, 0, none⟩) nn cy) N ∧ Marked w2.heap.size w8 (.slice (some ⟨gz, 0, none⟩) pn cz) P ∧ w0.heap.size ≤ w8.heap.size ∧ w1.heap.size ≤ w8.heap.size ∧ w2.heap.size ≤ w8.heap.size) := by
    have s := hb8.size
    obtain ⟨m1, m2, m3, m4, m5, m6⟩ := HM7.out
    exact ⟨m1.kept fun q hq => hb8.block q hq, m2.kept fun q hq => hb8.block q hq, m3.kept fun q hq => hb8.block q hq, by omega, by omega, by omega⟩
  have HB8 : Hid (Below w.heap.size w w8 ∧ w3.heap.size ≤ w8.heap.size) := ⟨HB7.out.trans (hb8.mono HB7.out.size), Nat.le_trans HS5.out (Nat.le_trans HS57.out hb8.size)⟩
  have HP8 : Hid (Beg w w8 w3.heap.size g t h L (E ++ (N ++ P)) ka va kc vc) := HP7.out.below hb8 HB3.out.size
  clear hh hb8 HA7 HM7 HB7 HP7 c4 HW3
  have HSx0 : Hid (Calls Tryd.prog 21 #[.slice (some ⟨gx, 0, none⟩) en cx] w8 fun e w' => Hid (e = .returned (.tuple #[]) ∧ w8.grownBy w' (some gx))) := spoilm_ok _ en gx cx E w8 HM8.out.1 hel.out (by omega) HM8.out.2.2.2.1
  go_upto_region 8 with (go_at_call 21; refine HSx0.out.mono ?_; intro e9 w9 hh; obtain ⟨rfl, hg9⟩ := hh.out)
  have HB9 : Hid (Below w.heap.size w w9 ∧ w3.heap.size ≤ w9.heap.size) := ⟨HB8.out.1.grown hg9 HB8.out.1.size (fun b hb => by injection hb with hb; have := HO.out; omega), Nat.le_trans HB8.out.2 hg9.size⟩
  have HP9 : Hid (Beg w w9 w3.heap.size g t h L (E ++ (N ++ P)) ka va kc vc) := HP8.out.spoil hg9 (by have := HO.out; omega) (by have := HO.out; omega)
  have HM9 : Hid (Marked w1.heap.size w9 (.slice (some ⟨gy, 0, none⟩) nn cy) N ∧ Marked w2.heap.size w9 (.slice (some ⟨gz, 0, none⟩) pn cz) P ∧ w1.heap.size ≤ w9.heap.size ∧ w2.heap.size ≤ w9.heap.size) := by
    have s := hg9.size
    have ho := HO.out
    have hz := HB8.out.2
    obtain ⟨m1, m2, m3, m4, m5, m6⟩ := HM8.out
    exact ⟨m2.blk (hg9.block gy (by omega) (fun e => by injection e with e; omega)), m3.blk (hg9.block gz (by omega) (fun e => by injection e with e; omega)), by omega, by omega⟩
  clear hh hg9 HSx0 HM8 HB8 HP8
  have HSx1 : Hid (Calls Tryd.prog 21 #[.slice (some ⟨gy, 0, none⟩) nn cy] w9 fun e w' => Hid (e = .returned (.tuple #[]) ∧ w9.grownBy w' (some gy))) := spoilm_ok _ nn gy cy N w9 HM9.out.1 hnl.out (by omega) HM9.out.2.2.1
  go_upto_region 9 with (go_at_call 21; refine HSx1.out.mono ?_; intro e10 w10 hh; obtain ⟨rfl, hg10⟩ := hh.out)
  have HB10 : Hid (Below w.heap.size w w10 ∧ w3.heap.size ≤ w10.heap.size) := ⟨HB9.out.1.grown hg10 HB9.out.1.size (fun b hb => by injection hb with hb; have := HO.out; omega), Nat.le_trans HB9.out.2 hg10.size⟩
  have HP10 : Hid (Beg w w10 w3.heap.size g t h L (E ++ (N ++ P)) ka va kc vc) := HP9.out.spoil hg10 (by have := HO.out; omega) (by have := HO.out; omega)
  have HM10 : Hid (Marked w2.heap.size w10 (.slice (some ⟨gz, 0, none⟩) pn cz) P ∧ w2.heap.size ≤ w10.heap.size) := by
    have s := hg10.size
    have ho := HO.out
    have hz := HB9.out.2
    obtain ⟨m2, m3, m5, m6⟩ := HM9.out
    exact ⟨m3.blk (hg10.block gz (by omega) (fun e => by injection e with e; omega)), by omega⟩
  clear hh hg10 HSx1 HM9 HB9 HP9
  have HSx2 : Hid (Calls Tryd.prog 21 #[.slice (some ⟨gz, 0, none⟩) pn cz] w10 fun e w' => Hid (e = .returned (.tuple #[]) ∧ w10.grownBy w' (some gz))) := spoilm_ok _ pn gz cz P w10 HM10.out.1 hpl.out (by omega) HM10.out.2
  go_upto_region 10 with (go_at_call 21; refine HSx2.out.mono ?_; intro e11 w11 hh; obtain ⟨rfl, hg11⟩ := hh.out)
  have HB11 : Hid (Below w.heap.size w w11 ∧ w3.heap.size ≤ w11.heap.size) := ⟨HB10.out.1.grown hg11 HB10.out.1.size (fun b hb => by injection hb with hb; have := HO.out; omega), Nat.le_trans HB10.out.2 hg11.size⟩
  have HP11 : Hid (Beg w w11 w3.heap.size g t h L (E ++ (N ++ P)) ka va kc vc) := HP10.out.spoil hg11 (by have := HO.out; omega) (by have := HO.out; omega)
  clear hh hg11 HSx2 HM10 HB10 HP10
  go_wp2
  go_ret3
  exact ⟨w3.heap.size, g, t, ka, va, kc, vc, rfl, HB3.out.size, HP11.out⟩
end Go.Proofs.YtkeklmkaleomkaaDoor
namespace Go.Proofs.YtkeklmkaleomkaaDoor
open Go.RowKit
set_option linter.unusedVariables false
set_option linter.unusedSimpArgs false
theorem view_lit (w : World) (zs : List Int) (t : TypeId) (f : Nat × Nat) (hl : zs.length ≤ 1000) : View (w.alloc (.cells (cellsU8 zs).toArray t f)) (.slice (some ⟨w.heap.size, 0, none⟩) zs.length zs.length) zs := by
  refine ⟨_, zs.length, rfl, Nat.le_refl _, by unfold maxLen; omega, (fun e => by cases e), .inr ⟨w.heap.size, 0, rfl, fun j hj => ?_⟩⟩
  rw [Nat.zero_add]
  have hb : (w.alloc (.cells (cellsU8 zs).toArray t f)).heap[w.heap.size]? = some (.cells (cellsU8 zs).toArray t f) := by
    show (w.heap.push _)[w.heap.size]? = _
    simp
  have hc := cellU8_at hj
  simp only [World.cell?, hb]
  simpa using hc
def litE : List Int := [48, 49, 50, 51, 52, 53, 54, 55, 56, 57, 97, 98, 99, 100, 101, 102]
def DrawP (w w' : World) (e : Ending) (g : Nat) (dg : Int) (K V : Nat → Int) (L c : Int) (n : Nat) : Prop := ∃ b, e = .returned (.tuple #[.slice (some ⟨b, 0, none⟩) n n, .int .i64 0]) ∧ w.heap.size ≤ b ∧ View w' (.slice (some ⟨b, 0, none⟩) n n) (fL (drO dg K V []) n) ∧ SpAt w' g dg (drK dg K V [] n) (drV dg K V [] n) L (c + 1) ∧ Touch w w' g 0 131
theorem draw_none (g : Nat) (dg : Int) (K V : Nat → Int) (L c : Int) (n : Nat) (w : World) (k : Known dg) (hs : SpAt w g dg K V L c) (hT : Tables w) (hg : 4 ≤ g) (hn : n ≤ 65536) (hc : c ≠ L) (hc0 : 0 ≤ c) (hc1 : c ≤ 16777216) :
    Calls Tryd.prog 12 #[.pointer (some ⟨g, 0, none⟩), .int .i64 (n : Nat), .slice none 0 0] w fun e w' => Hid (DrawP w w' e g dg K V L c n) := by
  have q := spdraw g dg K V L c n (.slice none 0 0) [] w k hs hT (.inl ⟨rfl, rfl⟩) (by show _ ≤ _; simp) (by show _ ≤ _; simp) hg hn hc hc0 hc1
  exact q
theorem left_ok (g : Nat) (dg : Int) (K V : Nat → Int) (L c : Int) (w : World) (hs : SpAt w g dg K V L c) (h0 : 0 ≤ c) (h1 : c ≤ 16777216) (h2 : 0 ≤ L) (h3 : L ≤ 16777216) :
    Calls Tryd.prog 16 #[.pointer (some ⟨g, 0, none⟩)] w fun e w' => Hid (e = .returned (.int .i64 (L - c)) ∧ Sm w w') := by
  refine (spleft g dg K V L c w hs h0 h1 h2 h3).mono ?_
  rintro e w' ⟨r1, m, rfl⟩
  have t := (Touch.refl w w.heap.size 0 0).drewN m
  exact ⟨r1, by first | exact (Sm.refl w).drewN m | exact ⟨rfl, rfl, rfl, rfl⟩⟩
set_option maxHeartbeats 1600000 in
set_option maxRecDepth 100000 in
/-- first. -/
theorem first_ok (w : World) (hT : Hid (Tables w)) : Calls Tryd.prog 18 #[] w fun e w' => Hid (e = .returned (.bool true) ∧ Below w.heap.size w w') := by
  have hT4 := hT.out.size
  have H9 : Hid (Calls Tryd.prog 9 #[.int .i64 256, .int .i64 1, .slice (some ⟨w.heap.size, 0, none⟩) 16 16, .slice none 0 0, .slice none 0 0] (w.alloc (.cells #[.int .u8 48, .int .u8 49, .int .u8 50, .int .u8 51, .int .u8 52, .int .u8 53, .int .u8 54, .int .u8 55, .int .u8 56, .int .u8 57, .int .u8 97, .int .u8 98, .int .u8 99, .int .u8 100, .int .u8 101, .int .u8 102] 5 (16, 17))) fun e w' => Hid (NewP (w.alloc (.cells (cellsU8 litE).toArray 5 (16, 17))) w' e 256 1 (litE ++ ([] ++ [])))) := by
    have b0 := below_alloc1 w (.cells (cellsU8 litE).toArray 5 (16, 17))
    exact spnew 256 1 _ _ _ 16 16 0 0 0 0 litE [] [] (w.alloc (.cells (cellsU8 litE).toArray 5 (16, 17))) (.inr (.inl rfl)) (hT.out.below b0 hT4) (by omega) (by omega) (view_lit w litE 5 (16, 17) (by decide)) rfl (view_nil _) rfl (view_nil _) rfl (by omega) (by omega) (by omega) (by omega)
  have HB0 : Hid (Below w.heap.size w (w.alloc (.cells (cellsU8 litE).toArray 5 (16, 17)))) := below_alloc1 _ _
  have kc := fun (w : World) (C : Array Value) (n c : Nat) => Lib.run_convert_bytes_const (P := Tryd.prog) w 22 5 C n c Tryd.underlying22 Tryd.underlying5
  go_enter Tryd.func18, Tryd.ntmps18
  go_upto_region 2 with (go_at_call 9; refine H9.out.mono ?_; intro e1 w1 hh; obtain ⟨g, rfl, r1, r2, r3⟩ := hh.out)
  have HB1 : Hid (Below w.heap.size w w1) := HB0.out.trans (r3.mono HB0.out.size)
  have HG : Hid (w.heap.size ≤ g) := Nat.le_trans HB0.out.size r1
  have HS1 : Hid (SpAt w1 g 256 (updK 256 (fun _ => 0) (ones (szOf 256)) (litE ++ ([] ++ []))) (updV 256 (fun _ => 0) (ones (szOf 256)) (litE ++ ([] ++ []))) 1 0) := r2
  clear hh r1 r2 r3 H9 HB0
  generalize updK 256 (fun _ => 0) (ones (szOf 256)) (litE ++ ([] ++ [])) = K at HS1
  generalize updV 256 (fun _ => 0) (ones (szOf 256)) (litE ++ ([] ++ [])) = V at HS1
  have H12 : Hid (Calls Tryd.prog 12 #[.pointer (some ⟨g, 0, none⟩), .int .i64 (5 : Nat), .slice none 0 0] w1 fun e w' => Hid (DrawP w1 w' e g 256 K V 1 0 5)) := draw_none g 256 K V 1 0 5 w1 (.inr (.inl rfl)) HS1.out (hT.out.below HB1.out hT4) (by have := HG.out; omega) (by omega) (by omega) (by omega) (by omega)
  go_upto_region 5 with (first | (go_at_call 10; refine (num_ok _ _).mono ?_; rintro e6 w6 ⟨rfl, hw6⟩; obtain rfl := hw6.symm) | (go_at_call 12; refine H12.out.mono ?_; intro e2 w2 hh; obtain ⟨b, rfl, r1, r2, r3, r4⟩ := hh.out))
  have HS2 : Hid (SpAt w2 g 256 (drK 256 K V [] 5) (drV 256 K V [] 5) 1 (0 + 1)) := r3
  have HB2 : Hid (Below w.heap.size w w2) := HB1.out.trans (r4.toBelow HG.out HB1.out.size)
  clear hh r1 r2 r3 r4 H12 HS1
  have H16 : Hid (Calls Tryd.prog 16 #[.pointer (some ⟨g, 0, none⟩)] w2 fun e w' => Hid (e = .returned (.int .i64 (1 - (0 + 1))) ∧ Sm w2 w')) := left_ok g 256 _ _ 1 (0 + 1) w2 HS2.out (by omega) (by omega) (by omega) (by omega)
  go_wp2_with (first | (go_at_call 10; refine (num_ok _ _).mono ?_; rintro e6 w6 ⟨rfl, hw6⟩; obtain rfl := hw6.symm) | (go_at_call 16; refine H16.out.mono ?_))
  intro e3 w3 hh
  obtain ⟨rfl, hs3⟩ := hh.out
  have HB3 : Hid (Below w.heap.size w w3) := Below.ofSm HB2.out hs3
  clear hh hs3 H16
  go_wp2
  go_ret
  exact ⟨rfl, HB3.out⟩
set_option maxHeartbeats 1600000 in
set_option maxRecDepth 100000 in
theorem nw_long (h L : Int) (ea na pa : Option Addr) (en ec nn nc pn pc : Nat) (w : World) (b1 : en ≤ 140737488355328) (b2 : nn ≤ 140737488355328) (b3 : pn ≤ 140737488355328) (hs : 262144 < en + nn + pn) :
    Calls Tryd.prog 6 #[.agg #[.int .i64 h, .int .i64 L, .slice ea en ec, .slice na nn nc, .slice pa pn pc]] w fun e w' => e = .returned (.bool true) ∧ Below w.heap.size w w' := by
  have d1 : (262144 : Int) < ((en : Nat) : Int) + ((nn : Nat) : Int) + ((pn : Nat) : Int) := by omega
  have HA0 : Hid (SeedAt (w.alloc (.cells #[.int .i64 h, .int .i64 L, .slice ea en ec, .slice na nn nc, .slice pa pn pc] 24)) w.heap.size h L (.slice ea en ec) (.slice na nn nc) (.slice pa pn pc) ∧ Below w.heap.size w (w.alloc (.cells #[.int .i64 h, .int .i64 L, .slice ea en ec, .slice na nn nc, .slice pa pn pc] 24))) := ⟨SeedAt.new _ _ _ _ _ _ _, below_alloc1 _ _⟩
  go_enter Tryd.func6, Tryd.ntmps6
  go_upto_region 1 with fail
  generalize w.alloc (.cells #[.int .i64 h, .int .i64 L, .slice ea en ec, .slice na nn nc, .slice pa pn pc] 24) = w0 at HA0 ⊢
  have c2 := HA0.out.1.c2
  have c3 := HA0.out.1.c3
  have c4 := HA0.out.1.c4
  go_wp2
  go_ret
  exact ⟨rfl, HA0.out.2⟩
set_option maxHeartbeats 3200000 in
set_option maxRecDepth 100000 in
theorem nw_bad (h L : Int) (ea na pa : Option Addr) (en ec nn nc pn pc : Nat) (E N P : List Int) (w : World) (hT : Hid (Tables w)) (hR : Hid (RTab w)) (he : Hid (View w (.slice ea en ec) E)) (hel : Hid (E.length = en)) (hn : Hid (View w (.slice na nn nc) N)) (hnl : Hid (N.length = nn)) (hp : Hid (View w (.slice pa pn pc) P)) (hpl : Hid (P.length = pn)) (hs : en + nn + pn ≤ 262144) (hE : newE h L en nn pn ≠ 0) :
    Calls Tryd.prog 6 #[.agg #[.int .i64 h, .int .i64 L, .slice ea en ec, .slice na nn nc, .slice pa pn pc]] w fun e w' => Hid (e = .returned (.bool true) ∧ Below w.heap.size w w') := by
  have hT4 := hT.out.size
  have d1 : ¬ (262144 : Int) < ((en : Nat) : Int) + ((nn : Nat) : Int) + ((pn : Nat) : Int) := by omega
  have e1 : ((en : Nat) : Int) ≤ 262144 := by omega
  have e2 : ((nn : Nat) : Int) ≤ 262144 := by omega
  have e3 : ((pn : Nat) : Int) ≤ 262144 := by omega
  have HA0 : Hid (SeedAt (w.alloc (.cells #[.int .i64 h, .int .i64 L, .slice ea en ec, .slice na nn nc, .slice pa pn pc] 24)) w.heap.size h L (.slice ea en ec) (.slice na nn nc) (.slice pa pn pc) ∧ Below w.heap.size w (w.alloc (.cells #[.int .i64 h, .int .i64 L, .slice ea en ec, .slice na nn nc, .slice pa pn pc] 24)) ∧ (w.alloc (.cells #[.int .i64 h, .int .i64 L, .slice ea en ec, .slice na nn nc, .slice pa pn pc] 24)).heap.size = w.heap.size + 1) := ⟨SeedAt.new _ _ _ _ _ _ _, below_alloc1 _ _, size_alloc1 _ _⟩
  go_enter Tryd.func6, Tryd.ntmps6
  go_upto_region 1 with fail
  generalize w.alloc (.cells #[.int .i64 h, .int .i64 L, .slice ea en ec, .slice na nn nc, .slice pa pn pc] 24) = w0 at HA0 ⊢
  have c0 := HA0.out.1.c0
  have c1 := HA0.out.1.c1
  have c2 := HA0.out.1.c2
  have c3 := HA0.out.1.c3
  have c4 := HA0.out.1.c4
  have HB0 : Hid (Below w.heap.size w w0) := HA0.out.2.1
  have HT0 : Hid (Tables w0) := hT.out.below HB0.out hT4
  have HR0 : Hid (RTab w0) := hR.out.below HB0.out (by have := hR.out.size; omega)
  have hw0 : 4 ≤ w0.heap.size := Nat.le_trans hT4 HB0.out.size
  have H17 : Hid (Calls Tryd.prog 17 #[.agg #[.int .i64 h, .int .i64 L, .slice ea en ec, .slice na nn nc, .slice pa pn pc]] w0 fun e w' => Hid (BegBad w0 w' e)) := begun_bad h L ea na pa en ec nn nc pn pc E N P w0 HT0 HR0 (he.out.kept fun q hq => HB0.out.block q hq) hel (hn.out.kept fun q hq => HB0.out.block q hq) hnl (hp.out.kept fun q hq => HB0.out.block q hq) hpl hs hE
  go_upto_region 4 with (go_at_call 17; refine H17.out.mono ?_; intro e4 w4 hh; obtain ⟨rfl, hb4⟩ := hh.out)
  have HB4 : Hid (Below w.heap.size w w4) := HB0.out.trans (hb4.mono HB0.out.size)
  clear hh hb4 H17 c0 c1 c2 c3 c4
  have H18 : Hid (Calls Tryd.prog 18 #[] w4 fun e w' => Hid (e = .returned (.bool true) ∧ Below w4.heap.size w4 w')) := first_ok w4 (hT.out.below HB4.out hT4)
  go_wp2_with (go_at_call 18; refine H18.out.mono ?_)
  intro e5 w5 hh
  obtain ⟨rfl, hb5⟩ := hh.out
  have HB5 : Hid (Below w.heap.size w w5) := HB4.out.trans (hb5.mono HB4.out.size)
  clear hh hb5 H18
  go_wp2
  go_ret
  exact ⟨rfl, HB5.out⟩
set_option maxHeartbeats 3200000 in
set_option maxRecDepth 100000 in
theorem nw_good (h L : Int) (ea na pa : Option Addr) (en ec nn nc pn pc : Nat) (E N P : List Int) (w : World) (hT : Hid (Tables w)) (hR : Hid (RTab w)) (he : Hid (View w (.slice ea en ec) E)) (hel : Hid (E.length = en)) (hn : Hid (View w (.slice na nn nc) N)) (hnl : Hid (N.length = nn)) (hp : Hid (View w (.slice pa pn pc) P)) (hpl : Hid (P.length = pn)) (hs : en + nn + pn ≤ 262144) (hE : newE h L en nn pn = 0) :
    Calls Tryd.prog 6 #[.agg #[.int .i64 h, .int .i64 L, .slice ea en ec, .slice na nn nc, .slice pa pn pc]] w fun e w' => Hid (e = .returned (.bool true) ∧ Below w.heap.size w w') := by
  have hT4 := hT.out.size
  have d1 : ¬ (262144 : Int) < ((en : Nat) : Int) + ((nn : Nat) : Int) + ((pn : Nat) : Int) := by omega
  have e1 : ((en : Nat) : Int) ≤ 262144 := by omega
  have e2 : ((nn : Nat) : Int) ≤ 262144 := by omega
  have e3 : ((pn : Nat) : Int) ≤ 262144 := by omega
  have HA0 : Hid (SeedAt (w.alloc (.cells #[.int .i64 h, .int .i64 L, .slice ea en ec, .slice na nn nc, .slice pa pn pc] 24)) w.heap.size h L (.slice ea en ec) (.slice na nn nc) (.slice pa pn pc) ∧ Below w.heap.size w (w.alloc (.cells #[.int .i64 h, .int .i64 L, .slice ea en ec, .slice na nn nc, .slice pa pn pc] 24)) ∧ (w.alloc (.cells #[.int .i64 h, .int .i64 L, .slice ea en ec, .slice na nn nc, .slice pa pn pc] 24)).heap.size = w.heap.size + 1) := ⟨SeedAt.new _ _ _ _ _ _ _, below_alloc1 _ _, size_alloc1 _ _⟩
  go_enter Tryd.func6, Tryd.ntmps6
  go_upto_region 1 with fail
  generalize w.alloc (.cells #[.int .i64 h, .int .i64 L, .slice ea en ec, .slice na nn nc, .slice pa pn pc] 24) = w0 at HA0 ⊢
  have c0 := HA0.out.1.c0
  have c1 := HA0.out.1.c1
  have c2 := HA0.out.1.c2
  have c3 := HA0.out.1.c3
  have c4 := HA0.out.1.c4
  have HB0 : Hid (Below w.heap.size w w0) := HA0.out.2.1
  have HT0 : Hid (Tables w0) := hT.out.below HB0.out hT4
  have HR0 : Hid (RTab w0) := hR.out.below HB0.out (by have := hR.out.size; omega)
  have hw0 : 4 ≤ w0.heap.size := Nat.le_trans hT4 HB0.out.size
  obtain ⟨k, hL1, hL2, _⟩ := newE_zero hE
  have H17 : Hid (Calls Tryd.prog 17 #[.agg #[.int .i64 h, .int .i64 L, .slice ea en ec, .slice na nn nc, .slice pa pn pc]] w0 fun e w' => Hid (BegGood w0 w' e h L (E ++ (N ++ P)))) := begun_good h L ea na pa en ec nn nc pn pc E N P w0 HT0 HR0 (he.out.kept fun q hq => HB0.out.block q hq) hel (hn.out.kept fun q hq => HB0.out.block q hq) hnl (hp.out.kept fun q hq => HB0.out.block q hq) hpl hs hE
  go_upto_region 4 with (go_at_call 17; refine H17.out.mono ?_; intro e4 w4 hh; obtain ⟨B, g, t, ka, va, kc, vc, rfl, hB, hp4⟩ := hh.out)
  have HA4 : Hid (SeedAt w4 w.heap.size h L (.slice ea en ec) (.slice na nn nc) (.slice pa pn pc)) := HA0.out.1.blk (hp4.bel.block _ (by have := HA0.out.2.2; omega))
  have HB4 : Hid (Below w.heap.size w w4) := HB0.out.trans (hp4.bel.mono HB0.out.size)
  have HP4 : Hid (Beg w0 w4 B g t h L (E ++ (N ++ P)) ka va kc vc ∧ w0.heap.size ≤ B) := ⟨hp4, hB⟩
  clear hh hp4 hB H17 c0 c1 c2 c3 c4
  have hg0 : 4 ≤ g ∧ w.heap.size < g := by have := HP4.out.1.gB; have := HP4.out.2; have := HA0.out.2.2; omega
  have hgt := HP4.out.1.tG
  obtain ⟨K, HK⟩ : ∃ K, Hid (K = updK h (fun _ => 0) (ones (szOf h)) (E ++ (N ++ P))) := ⟨_, rfl⟩
  obtain ⟨V, HV⟩ : ∃ V, Hid (V = updV h (fun _ => 0) (ones (szOf h)) (E ++ (N ++ P))) := ⟨_, rfl⟩
  have HS4 : Hid (SpAt w4 g h K V L 0) := by rw [HK.out, HV.out]; exact HP4.out.1.sp
  have HQ4 : Hid (RSp w4 t h L 0 ka kc va vc (fL K (szOf h)) (fL V (szOf h))) := by rw [HK.out, HV.out]; exact HP4.out.1.rs
  have H12 : Hid (Calls Tryd.prog 12 #[.pointer (some ⟨g, 0, none⟩), .int .i64 (40 : Nat), .slice none 0 0] w4 fun e w' => Hid (DrawP w4 w' e g h K V L 0 40)) := draw_none g h K V L 0 40 w4 k HS4.out (hT.out.below HB4.out hT4) hg0.1 (by omega) (by omega) (by omega) (by omega)
  go_upto_region 7 with (go_at_call 12; refine H12.out.mono ?_; intro e5 w5 hh; obtain ⟨b, rfl, r1, r2, r3, r4⟩ := hh.out)
  have HA5 : Hid (SeedAt w5 w.heap.size h L (.slice ea en ec) (.slice na nn nc) (.slice pa pn pc)) := HA4.out.blk (r4.block _ (lt_of_cell HA4.out.c0) (by omega))
  have HB5 : Hid (Below w.heap.size w w5) := HB4.out.trans (r4.toBelow (by omega) HB4.out.size)
  have HQ5 : Hid (RSp w5 t h L 0 ka kc va vc (fL K (szOf h)) (fL V (szOf h))) := HQ4.out.blk (r4.block t HQ4.out.lt (by omega)) (fun q off e => r4.block q (HP4.out.1.kG q off e).2 (by have := HP4.out.1.kG q off e; omega)) (fun q off e => r4.block q (HP4.out.1.vG q off e).2 (by have := HP4.out.1.vG q off e; omega))
  have HS5 : Hid (SpAt w5 g h (drK h K V [] 40) (drV h K V [] 40) L (0 + 1)) := r3
  have HV5 : Hid (View w5 (.slice (some ⟨b, 0, none⟩) 40 40) (fL (drO h K V []) 40) ∧ t < b) := ⟨r2, by have := HQ4.out.lt; omega⟩
  clear hh r1 r2 r3 r4 H12 HA4 HB4 HQ4 HS4 HP4
  have H19 : Hid (Calls Tryd.prog 19 #[.pointer (some ⟨t, 0, none⟩), .int .i64 (40 : Nat), .slice none 0 0] w5 fun e w' => Hid (RDrawP w5 w' e t h K V L 0 40 [])) := rdraw_ok t h K V L 0 ka va none kc vc 0 0 40 [] [] w5 k HQ5 (hR.out.below HB5.out (by have := hR.out.size; omega)) ⟨none, 0, rfl, by simp, by simp [maxLen], rfl, fun i x e => by simp at e, .inl rfl⟩ rfl (by show _ ≤ _; simp) (by omega) (by omega) (by omega) (by omega) (by omega) (by omega)
  go_upto_region 8 with (go_at_call 19; refine H19.out.mono ?_; intro e6 w6 hh; obtain ⟨ba, bc, ka', kc', va', vc', rfl, r1, r2, r3, r4⟩ := hh.out)
  have HA6 : Hid (SeedAt w6 w.heap.size h L (.slice ea en ec) (.slice na nn nc) (.slice pa pn pc)) := HA5.out.blk (r4.block _ (lt_of_cell HA5.out.c0) (by omega))
  have HB6 : Hid (Below w.heap.size w w6) := HB5.out.trans (r4.toBelow (by omega) HB5.out.size)
  have HS6 : Hid (SpAt w6 g h (drK h K V [] 40) (drV h K V [] 40) L (0 + 1)) := HS5.out.block (r4.block g HS5.out.lt (by omega))
  have HVA : Hid (View w6 (.slice (some ⟨b, 0, none⟩) 40 40) (fL (drO h K V []) 40)) := r4.view HV5.out.1 (fun b' off l c' e => .inl (by injection e with e1 _ _; injection e1 with e1; injection e1 with e2 _; have := HV5.out.2; omega))
  have HVB : Hid (View w6 (.slice ba 40 bc) (fL (drO h K V []) 40)) := r1
  clear hh r1 r2 r3 r4 H19 HA5 HB5 HQ5 HS5 HV5
  have H13 : Hid (∀ u : World, Sm w6 u → Calls Tryd.prog 13 #[.slice (some ⟨b, 0, none⟩) 40 40, .slice ba 40 bc] u fun e w' => e = .returned (.bool true) ∧ ∃ m, w' = u.drewN m) := fun u hu => by
    refine (same_any _ _ _ _ u (hu.view HVA.out) (hu.view HVB.out)).mono ?_
    rintro e w' ⟨q1, q2⟩
    exact ⟨by rw [q1]; simp, q2⟩
  have H16 : Hid (∀ u : World, Sm w6 u → Calls Tryd.prog 16 #[.pointer (some ⟨g, 0, none⟩)] u fun e w' => e = .returned (.int .i64 (L - (0 + 1))) ∧ ∃ m, w' = u.drewN m) := fun u hu => spleft g h _ _ L (0 + 1) u (HS6.out.block (by rw [hu.heap])) (by omega) (by omega) (by omega) (by omega)
  have c1 := HA6.out.c1
  go_quiet (first
    | (go_at_call 10; exact Calls.quiet_of_same (num_ok _ _))
    | (go_at_call 13; exact Calls.quiet_of (H13.out _ (by first | exact Sm.refl _ | exact ⟨rfl, rfl, rfl, rfl⟩)))
    | (go_at_call 16; exact Calls.quiet_of (H16.out _ (by first | exact Sm.refl _ | exact ⟨rfl, rfl, rfl, rfl⟩))))
  have HB7 : Hid (Below w.heap.size w (w6.drewN nq)) := Below.ofSm HB6.out ⟨rfl, rfl, rfl, rfl⟩
  go_wp2
  go_ret
  exact ⟨rfl, HB7.out⟩
theorem nw_ok (h L : Int) (ea na pa : Option Addr) (en ec nn nc pn pc : Nat) (E N P : List Int) (w : World) (hT : Tables w) (hR : RTab w) (he : View w (.slice ea en ec) E) (hel : E.length = en) (hn : View w (.slice na nn nc) N) (hnl : N.length = nn) (hp : View w (.slice pa pn pc) P) (hpl : P.length = pn) (b1 : en ≤ 140737488355328) (b2 : nn ≤ 140737488355328) (b3 : pn ≤ 140737488355328) :
    Calls Tryd.prog 6 #[.agg #[.int .i64 h, .int .i64 L, .slice ea en ec, .slice na nn nc, .slice pa pn pc]] w fun e w' => e = .returned (.bool true) ∧ Below w.heap.size w w' := by
  by_cases hs : 262144 < en + nn + pn
  · exact nw_long h L ea na pa en ec nn nc pn pc w b1 b2 b3 hs
  · by_cases hE : newE h L en nn pn = 0
    · exact (nw_good h L ea na pa en ec nn nc pn pc E N P w hT hR he hel hn hnl hp hpl (by omega) hE).mono fun e w' hh => hh.out
    · exact (nw_bad h L ea na pa en ec nn nc pn pc E N P w hT hR he hel hn hnl hp hpl (by omega) hE).mono fun e w' hh => hh.out
end Go.Proofs.YtkeklmkaleomkaaDoor
namespace Go.Proofs.YtkeklmkaleomkaaDoor
open Go.ChangeShapes Go.WideShapes Go.ChangeAt Go.RowKit
set_option linter.unusedVariables false
/-- A block that holds a table. -/
def refilled2 (zs : List Int) : Obj → Obj
  | .cells _ t frozen => .cells (zs.map (Value.int .u64)).toArray t frozen
  | o => o
/-- The four tables, as the row lays them. -/
theorem tables_of4 {W : World} (h : laidMet Tryd.prog [("coffer/cofferref01.cubes", Lib.tabData .u64 cubesL), ("coffer/cofferref01.squares", Lib.tabData .u64 rootsL), ("coffer/digest.roots", Lib.tabData .u64 rootsL), ("coffer/digest.cubes", Lib.tabData .u64 cubesL)] W) : Tables W ∧ RTab W := by
  have h1 : Lib.TabIs Tryd.prog W "coffer/cofferref01.cubes" .u64 cubesL := Lib.tabIs_of_head (g := 1) (t := 95) (e := 85) (n := 80) (by kernel_rfl) (by kernel_rfl) (by kernel_rfl) (by kernel_rfl) (by kernel_rfl) (by kernel_rfl) h
  obtain ⟨ps, ⟨g1, t1, cs1, fuel1, p1, q1, _, _, _, _, hr2, _⟩, _⟩ := h
  obtain ⟨g2, t2, cs2, fuel2, p2, q2, hg2, ht2, hvar2, hd2, hr3, _⟩ := hr2
  obtain ⟨g3, t3, cs3, fuel3, p3, q3, hg3, ht3, hvar3, hd3, hr4, _⟩ := hr3
  obtain ⟨g4, t4, cs4, fuel4, p4, q4, hg4, ht4, hvar4, hd4, _, _⟩ := hr4
  have h2 : Lib.TabIs Tryd.prog W "coffer/cofferref01.squares" .u64 rootsL := by
    have hg : Tryd.prog.globalNamed "coffer/cofferref01.squares" = some 0 := by kernel_rfl
    obtain rfl := Option.some.inj (hg.symm.trans hg2)
    have hty : (Tryd.prog.globals[0]?).map (·.type) = some 92 := by kernel_rfl
    obtain rfl := Option.some.inj (hty.symm.trans ht2)
    unfold Lib.TabIs
    rw [hvar2, ← Lib.cells_of_tab (n := 16) (e := 85) (by kernel_rfl) (by kernel_rfl) (by kernel_rfl) (by kernel_rfl) hd2]
  have h3 : Lib.TabIs Tryd.prog W "coffer/digest.roots" .u64 rootsL := by
    have hg : Tryd.prog.globalNamed "coffer/digest.roots" = some 2 := by kernel_rfl
    obtain rfl := Option.some.inj (hg.symm.trans hg3)
    have hty : (Tryd.prog.globals[2]?).map (·.type) = some 92 := by kernel_rfl
    obtain rfl := Option.some.inj (hty.symm.trans ht3)
    unfold Lib.TabIs
    rw [hvar3, ← Lib.cells_of_tab (n := 16) (e := 85) (by kernel_rfl) (by kernel_rfl) (by kernel_rfl) (by kernel_rfl) hd3]
  have h4 : Lib.TabIs Tryd.prog W "coffer/digest.cubes" .u64 cubesL := by
    have hg : Tryd.prog.globalNamed "coffer/digest.cubes" = some 3 := by kernel_rfl
    obtain rfl := Option.some.inj (hg.symm.trans hg4)
    have hty : (Tryd.prog.globals[3]?).map (·.type) = some 95 := by kernel_rfl
    obtain rfl := Option.some.inj (hty.symm.trans ht4)
    unfold Lib.TabIs
    rw [hvar4, ← Lib.cells_of_tab (n := 80) (e := 85) (by kernel_rfl) (by kernel_rfl) (by kernel_rfl) (by kernel_rfl) hd4]
  exact ⟨⟨fun t ht => h4.cell (by kernel_rfl) t (by simpa [cubesL] using ht), fun t ht => h3.cell (by kernel_rfl) t (by simpa [rootsL] using ht)⟩, ⟨fun t ht => h1.cell (by kernel_rfl) t (by simpa [cubesL] using ht), fun t ht => h2.cell (by kernel_rfl) t (by simpa [rootsL] using ht)⟩⟩

end Go.Proofs.YtkeklmkaleomkaaDoor
