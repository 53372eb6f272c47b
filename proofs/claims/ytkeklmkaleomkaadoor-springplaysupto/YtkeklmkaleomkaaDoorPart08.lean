import Derived.Test.YtkeklmkaleomkaaDoorPart07
import Derived.BigQuiet
namespace Go.Proofs.YtkeklmkaleomkaaDoor
open Go.RowKit
set_option linter.unusedVariables false
set_option linter.unusedSimpArgs false
/-- Both slices lie in new memory. -/
def New2 (w : World) (ka va : Option Addr) : Prop := (∀ b off, ka = some ⟨b, off, none⟩ → w.heap.size ≤ b) ∧ (∀ b off, va = some ⟨b, off, none⟩ → w.heap.size ≤ b)
/-- What update leaves. -/
def RUpd (w w' : World) (g : Nat) (dg L c : Int) (KL VL xs : List Int) : Prop := ∃ ka' kc' va' vc', RSp w' g dg L c ka' kc' va' vc' (rst dg KL VL xs (if xs.length = 0 then 1 else 2)).1 (rst dg KL VL xs (if xs.length = 0 then 1 else 2)).2 ∧ Touch w w' g 0 5 ∧ New2 w ka' va'
set_option maxHeartbeats 20000000 in
set_option maxRecDepth 100000 in
/-- The document's update. -/
theorem rupdate_ok (g : Nat) (dg L c : Int) (ka va xa : Option Addr) (kc vc xn xc : Nat) (KL VL xs : List Int) (w : World) (k : Hid (Known dg)) (hs : Hid (RSp w g dg L c ka kc va vc KL VL)) (hR : Hid (RTab w)) (hx : Hid (View w (.slice xa xn xc) xs)) (hxl : Hid (xs.length = xn)) (hxb : xn ≤ 1048576) (hg : 4 ≤ g) (hxg : Hid (Apart (.slice xa xn xc) g 0 5)) :
    Calls Tryd.prog 31 #[.pointer (some ⟨g, 0, none⟩), .slice xa xn xc] w fun e w' => Hid (e = .returned (.tuple #[]) ∧ RUpd w w' g dg L c KL VL xs) := by
  obtain ⟨sz, HSZ⟩ : ∃ sz, Hid (sz = szOf dg) := ⟨_, rfl⟩
  have hsz : sz ≤ 64 := by rw [HSZ.out]; exact szOf_le k.out
  go_enter Tryd.func31, Tryd.ntmps31
  go_wp2
  go_loopw [4] (fun vm wr => ∃ q : Nat, ∃ (ka : Option Addr) (kc : Nat) (va : Option Addr) (vc : Nat), vm = .int .i64 (q : Nat) ∧ q ≤ 2 ∧ (q = 2 → xn ≠ 0) ∧ Hid (RSp wr g dg L c ka kc va vc (rst dg KL VL xs q).1 (rst dg KL VL xs q).2 ∧ Touch w wr g 0 5 ∧ (q ≠ 0 → New2 w ka va))) (fun vm _ => 2 - (intOf vm).toNat)
  case atStart => exact ⟨0, ka, kc, va, vc, rfl, by omega, by omega, hs.out, Touch.refl _ _ _ _, fun h => absurd rfl h⟩
  case round =>
    obtain ⟨q, ka1, kc1, va1, vc1, rfl, hq, hq2, HR⟩ := hrel
    by_cases hq0 : q = 0
    · subst hq0
      obtain ⟨KL1, HK1⟩ : ∃ X, Hid (X = (rst dg KL VL xs 0).1) := ⟨_, rfl⟩
      obtain ⟨VL1, HV1⟩ : ∃ X, Hid (X = (rst dg KL VL xs 0).2) := ⟨_, rfl⟩
      have HRr : Hid (RSp wr g dg L c ka1 kc1 va1 vc1 KL1 VL1 ∧ Touch w wr g 0 5) := by rw [HK1.out, HV1.out]; exact ⟨HR.out.1, HR.out.2.1⟩
      clear HR
      have c0 := HRr.out.1.c0
      have c3 := HRr.out.1.c3
      have c4 := HRr.out.1.c4
      rw [← HSZ.out] at c3 c4
      have hV := HRr.out.1.vV
      rw [← HSZ.out] at hV
      have HVl : Hid (VL1.length = sz) := by rw [HSZ.out]; exact HRr.out.1.lV
      have HV : Hid (View wr (.slice va1 sz vc1) VL1) := hV
      clear hV
      go_wp2_with (first | (at_builtin; go_must (refine wpList_append_view rfl (.tmp 17) (.tmp 21) rfl wr.heap.size 0 sz (.slice none 0 0) [] rfl (World.ownsRow_nil _ _ _ _) va1 sz vc1 rfl VL1 HV.out HVl.out (by omega) (by omega) (Nat.le_refl _) ?_)))
      intro v4 w4 hown4 hgrow4 hat4
      obtain ⟨a4, c5, rfl⟩ := owns_slice0 hown4
      have HB4 : Hid (Below wr.heap.size wr w4) := (Below.refl _ _).grown hgrow4 (Nat.le_refl _) (fun b hb => by cases hb)
      have HO4 : Hid (w4.ownsRow wr.heap.size 5 1 (.slice a4 sz c5) sz (cellsU8 VL1)) := (by simpa using hown4 : w4.ownsRow wr.heap.size 5 1 (.slice a4 sz c5) sz (cellsU8 VL1))
      clear hown4 hgrow4 hat4 c0 c3 c4
      have hBa : Below w4.heap.size w4 (w4.alloc (.cells #[.int .u8 0] 5)) := below_alloc1 _ _
      have HOa : Hid ((w4.alloc (.cells #[.int .u8 0] 5)).ownsRow wr.heap.size 5 1 (.slice a4 sz c5) sz (cellsU8 VL1)) := owns_kept HO4.out hBa
      have HBa : Hid (Below wr.heap.size wr (w4.alloc (.cells #[.int .u8 0] 5))) := HB4.out.trans (hBa.mono HB4.out.size)
      have HVa : Hid (View (w4.alloc (.cells #[.int .u8 0] 5)) (.slice (some ⟨w4.heap.size, 0, none⟩) 1 1) [0]) := ⟨_, 1, rfl, by simp, by simp [maxLen], (fun e => by cases e), .inr ⟨w4.heap.size, 0, rfl, fun j hj => by
        obtain rfl : j = 0 := by simp at hj; omega
        exact rangeAt_new w4 #[.int .u8 0] 5 0 _ rfl⟩⟩
      clear hBa
      go_wp2_with (first | (at_builtin; go_must (refine wpList_append_view rfl (.tmp 23) (.tmp 26) rfl wr.heap.size sz (sz + 1) (.slice a4 sz c5) VL1 rfl HOa.out (some ⟨w4.heap.size, 0, none⟩) 1 1 rfl [0] HVa.out rfl rfl (by omega) HBa.out.size ?_)))
      intro v6 w6 hown6 hgrow6 hat6
      obtain ⟨a6, c6, rfl⟩ := owns_slice0 hown6
      have HB6 : Hid (Below wr.heap.size wr w6) := HBa.out.grown hgrow6 HBa.out.size (fun b hb => (HOa.out.lt b hb).1)
      have HO6 : Hid (w6.ownsRow wr.heap.size 5 1 (.slice a6 (sz + 1) c6) (sz + 1) (cellsU8 (VL1 ++ [0]))) := hown6
      clear hown6 hgrow6 hat6 HOa HBa HVa HO4 HB4
      have HX6 : Hid (View w6 (.slice xa xn xc) xs) := (HRr.out.2.view hx.out hxg.out).kept fun b hb => HB6.out.block b hb
      go_wp2_with (first | (at_builtin; go_must (refine wpList_append_view rfl (.tmp 28) (.tmp 29) rfl wr.heap.size (sz + 1) (sz + 1 + xn) (.slice a6 (sz + 1) c6) (VL1 ++ [0]) rfl HO6.out xa xn xc rfl xs HX6.out hxl.out rfl (by omega) HB6.out.size ?_)))
      intro v7 w7 hown7 hgrow7 hat7
      obtain ⟨a7, c7, rfl⟩ := owns_slice0 hown7
      have HB7 : Hid (Below wr.heap.size wr w7) := HB6.out.grown hgrow7 HB6.out.size (fun b hb => (HO6.out.lt b hb).1)
      have HV7 : Hid (View w7 (.slice a7 (sz + 1 + xn) c7) (VL1 ++ (0 : Int) :: xs)) := by
        have q := viewOwns hown7 (by simp [HVl.out, hxl.out]; omega)
        have q2 : View w7 (.slice a7 (sz + 1 + xn) c7) (VL1 ++ (0 : Int) :: xs) := by simpa using q
        exact q2
      have HR7 : Hid (RSp w7 g dg L c ka1 kc1 va1 vc1 KL1 VL1) := HRr.out.1.below HB7.out
      clear hown7 hgrow7 hat7 HO6 HB6 HX6 HV
      obtain ⟨Z1, HZ1⟩ : ∃ Z, Hid (Z = hmac dg KL1 (VL1 ++ (0 : Int) :: xs)) := ⟨_, rfl⟩
      have HZ1l : Hid (Z1.length = sz) := by show _ = _; rw [HZ1.out, hmac_len k.out, HSZ.out]
      have HC7 : Hid (∀ u, Sm w7 u → Calls Tryd.prog 32 #[.int .i64 dg, .slice ka1 sz kc1, .slice a7 (sz + 1 + xn) c7] u fun e w' => Hid (∃ a8 c8, e = .returned (.slice a8 sz c8) ∧ View w' (.slice a8 sz c8) Z1 ∧ (∀ b off, a8 = some ⟨b, off, none⟩ → wr.heap.size ≤ b) ∧ Below wr.heap.size wr w')) := fun u hu => by
        have hbu := Below.ofSm HB7.out hu
        have q := rcode_walk dg ka1 sz kc1 a7 (sz + 1 + xn) c7 KL1 (VL1 ++ (0 : Int) :: xs) u k ((hR.out.touch HRr.out.2 hg).below hbu (by have := (hR.out.touch HRr.out.2 hg).size; omega)) (by show View _ _ _; rw [HSZ.out]; exact hu.view HR7.out.vK) (by show _ = _; rw [HSZ.out]; exact HR7.out.lK) (hu.view HV7.out) (by show _ = _; simp [HVl.out, hxl.out]; omega) (by omega) (by omega)
        rw [← HSZ.out, ← HZ1.out] at q
        refine q.mono ?_
        rintro e w' ⟨v', r1, r2, r3⟩
        obtain ⟨a8, c8, rfl⟩ := owns_slice0 r2
        exact ⟨a8, c8, r1, viewOwns r2 HZ1l.out, fun b off e => by have := (r2.lt b (by rw [e]; rfl)).1; have := hbu.size; omega, hbu.trans (r3.mono hbu.size)⟩
      have c0 := HR7.out.c0
      have c3 := HR7.out.c3
      rw [← HSZ.out] at c3
      go_upto_region 8 with fail
      go_region_with (go_at_call 32; refine (HC7.out _ ?_).mono ?_; exact ⟨rfl, rfl, rfl, rfl⟩; intro e8 w8 hh; obtain ⟨a8, c8, rfl, hv8, ha8, hb8⟩ := hh.out; have p3 : w8.cell? ⟨g, 3, none⟩ = some (.slice ka1 (szOf dg) kc1) := (HRr.out.1.below hb8).c3; have z3 : w8.frozen? ⟨g, 3, none⟩ = false := (by have := ((HRr.out.1.below hb8).there 3 (by omega)).2; simpa using this))
      all_goals
        have HR9 : Hid (RSp (w8.setCell ⟨g, 3, none⟩ (.slice a8 sz c8)) g dg L c a8 c8 va1 vc1 Z1 VL1 ∧ Touch w (w8.setCell ⟨g, 3, none⟩ (.slice a8 sz c8)) g 0 5) := by
          have q := (HRr.out.1.below hb8).setK a8 c8 Z1 (by rw [← HSZ.out]; exact hv8) (by rw [← HSZ.out]; exact HZ1l.out) (fun b off e => by have := ha8 b off e; have := HRr.out.1.lt; omega)
          rw [← HSZ.out] at q
          exact ⟨q, (HRr.out.2.trans ((Touch.refl wr g 0 5).below hb8 HRr.out.1.lt)).setCell 3 _ (by omega) (by omega)⟩
        have HN8 : Hid (∀ b off, a8 = some ⟨b, off, none⟩ → w.heap.size ≤ b) := fun b off e => Nat.le_trans HRr.out.2.size (ha8 b off e)
        generalize w8.setCell ⟨g, 3, none⟩ (.slice a8 sz c8) = w9 at HR9 ⊢
        clear hh hv8 ha8 hb8 p3 z3 c0 c3 HC7 HR7 HV7 HB7 HRr
        obtain ⟨Z2, HZ2⟩ : ∃ Z, Hid (Z = hmac dg Z1 VL1) := ⟨_, rfl⟩
        have HZ2l : Hid (Z2.length = sz) := by show _ = _; rw [HZ2.out, hmac_len k.out, HSZ.out]
        have HC9 : Hid (∀ u, Sm w9 u → Calls Tryd.prog 32 #[.int .i64 dg, .slice a8 sz c8, .slice va1 sz vc1] u fun e w' => Hid (∃ a0 c0, e = .returned (.slice a0 sz c0) ∧ View w' (.slice a0 sz c0) Z2 ∧ (∀ b off, a0 = some ⟨b, off, none⟩ → w9.heap.size ≤ b) ∧ Below w9.heap.size w9 w')) := fun u hu => by
          have hbu : Below w9.heap.size w9 u := Below.ofSm (Below.refl _ _) hu
          have q := rcode_walk dg a8 sz c8 va1 sz vc1 Z1 VL1 u k ((hR.out.touch HR9.out.2 hg).below hbu (by have := (hR.out.touch HR9.out.2 hg).size; omega)) (by show View _ _ _; have r := HR9.out.1.vK; rw [← HSZ.out] at r; exact hu.view r) HZ1l (by show View _ _ _; have r := HR9.out.1.vV; rw [← HSZ.out] at r; exact hu.view r) HVl (by omega) (by omega)
          rw [← HSZ.out, ← HZ2.out] at q
          refine q.mono ?_
          rintro e w' ⟨v', r1, r2, r3⟩
          obtain ⟨a0, c0, rfl⟩ := owns_slice0 r2
          exact ⟨a0, c0, r1, viewOwns r2 HZ2l.out, fun b off e => by have := (r2.lt b (by rw [e]; rfl)).1; have := hbu.size; omega, hbu.trans (r3.mono hbu.size)⟩
        have c0 := HR9.out.1.c0
        have c3 := HR9.out.1.c3
        have c4 := HR9.out.1.c4
        rw [← HSZ.out] at c3 c4
        go_upto_region 9 with fail
        go_region_with (go_at_call 32; refine (HC9.out _ ?_).mono ?_; exact ⟨rfl, rfl, rfl, rfl⟩; intro e10 w10 hh; obtain ⟨a10, c10, rfl, hv10, ha10, hb10⟩ := hh.out; have p4 : w10.cell? ⟨g, 4, none⟩ = some (.slice va1 (szOf dg) vc1) := (HR9.out.1.below hb10).c4; have z4 : w10.frozen? ⟨g, 4, none⟩ = false := (by have := ((HR9.out.1.below hb10).there 4 (by omega)).2; simpa using this))
        all_goals
          have HR11 : Hid (RSp (w10.setCell ⟨g, 4, none⟩ (.slice a10 sz c10)) g dg L c a8 c8 a10 c10 (rst dg KL VL xs (0 + 1)).1 (rst dg KL VL xs (0 + 1)).2 ∧ Touch w (w10.setCell ⟨g, 4, none⟩ (.slice a10 sz c10)) g 0 5) := by
            have q := (HR9.out.1.below hb10).setV a10 c10 Z2 (by rw [← HSZ.out]; exact hv10) (by rw [← HSZ.out]; exact HZ2l.out) (fun b off e => by have := ha10 b off e; have := HR9.out.1.lt; omega)
            rw [← HSZ.out] at q
            have e1 : (rst dg KL VL xs (0 + 1)).1 = Z1 := by rw [HZ1.out, HK1.out, HV1.out]; rfl
            have e2 : (rst dg KL VL xs (0 + 1)).2 = Z2 := by rw [HZ2.out, HZ1.out, HK1.out, HV1.out]; rfl
            rw [e1, e2]
            exact ⟨q, (HR9.out.2.trans ((Touch.refl w9 g 0 5).below hb10 HR9.out.1.lt)).setCell 4 _ (by omega) (by omega)⟩
          have HN11 : Hid (New2 w a8 a10) := ⟨HN8.out, fun b off e => Nat.le_trans HR9.out.2.size (ha10 b off e)⟩
          generalize w10.setCell ⟨g, 4, none⟩ (.slice a10 sz c10) = w11 at HR11 ⊢
          clear hh hv10 ha10 hb10 p4 z4 c0 c3 c4 HC9 HR9
          go_wp2
          go_roundw
          case rel => exact ⟨0 + 1, a8, c8, a10, c10, by go_num, by omega, by omega, HR11.out.1, HR11.out.2, fun _ => HN11.out⟩
          case measure => simp [intOf]
    by_cases hq1 : q = 1
    · subst hq1
      by_cases hx0 : xn = 0
      · have HE : Hid (RUpd w wr g dg L c KL VL xs) := by show RUpd _ _ _ _ _ _ _ _ _; unfold RUpd; rw [hxl.out, if_pos hx0]; exact ⟨_, _, _, _, HR.out.1, HR.out.2.1, HR.out.2.2 (by decide)⟩
        clear HR
        subst hx0
        go_wp2
        (try simp only [Exit.inBlock, Exit.then]); refine bodyPost_ret (results_none rfl _ _ _) rfl ?_
        exact ⟨rfl, HE.out⟩
      · have hx1 : (((xn : Nat) : Int) == 0) = false := by simp; exact hx0
        obtain ⟨KL1, HK1⟩ : ∃ X, Hid (X = (rst dg KL VL xs 1).1) := ⟨_, rfl⟩
        obtain ⟨VL1, HV1⟩ : ∃ X, Hid (X = (rst dg KL VL xs 1).2) := ⟨_, rfl⟩
        have HRr : Hid (RSp wr g dg L c ka1 kc1 va1 vc1 KL1 VL1 ∧ Touch w wr g 0 5) := by rw [HK1.out, HV1.out]; exact ⟨HR.out.1, HR.out.2.1⟩
        clear HR
        have c0 := HRr.out.1.c0
        have c3 := HRr.out.1.c3
        have c4 := HRr.out.1.c4
        rw [← HSZ.out] at c3 c4
        have hV := HRr.out.1.vV
        rw [← HSZ.out] at hV
        have HVl : Hid (VL1.length = sz) := by rw [HSZ.out]; exact HRr.out.1.lV
        have HV : Hid (View wr (.slice va1 sz vc1) VL1) := hV
        clear hV
        go_wp2_with (first | (at_builtin; go_must (refine wpList_append_view rfl (.tmp 17) (.tmp 21) rfl wr.heap.size 0 sz (.slice none 0 0) [] rfl (World.ownsRow_nil _ _ _ _) va1 sz vc1 rfl VL1 HV.out HVl.out (by omega) (by omega) (Nat.le_refl _) ?_)))
        intro v4 w4 hown4 hgrow4 hat4
        obtain ⟨a4, c5, rfl⟩ := owns_slice0 hown4
        have HB4 : Hid (Below wr.heap.size wr w4) := (Below.refl _ _).grown hgrow4 (Nat.le_refl _) (fun b hb => by cases hb)
        have HO4 : Hid (w4.ownsRow wr.heap.size 5 1 (.slice a4 sz c5) sz (cellsU8 VL1)) := (by simpa using hown4 : w4.ownsRow wr.heap.size 5 1 (.slice a4 sz c5) sz (cellsU8 VL1))
        clear hown4 hgrow4 hat4 c0 c3 c4
        have hBa : Below w4.heap.size w4 (w4.alloc (.cells #[.int .u8 1] 5)) := below_alloc1 _ _
        have HOa : Hid ((w4.alloc (.cells #[.int .u8 1] 5)).ownsRow wr.heap.size 5 1 (.slice a4 sz c5) sz (cellsU8 VL1)) := owns_kept HO4.out hBa
        have HBa : Hid (Below wr.heap.size wr (w4.alloc (.cells #[.int .u8 1] 5))) := HB4.out.trans (hBa.mono HB4.out.size)
        have HVa : Hid (View (w4.alloc (.cells #[.int .u8 1] 5)) (.slice (some ⟨w4.heap.size, 0, none⟩) 1 1) [1]) := ⟨_, 1, rfl, by simp, by simp [maxLen], (fun e => by cases e), .inr ⟨w4.heap.size, 0, rfl, fun j hj => by
          obtain rfl : j = 0 := by simp at hj; omega
          exact rangeAt_new w4 #[.int .u8 1] 5 0 _ rfl⟩⟩
        clear hBa
        go_wp2_with (first | (at_builtin; go_must (refine wpList_append_view rfl (.tmp 23) (.tmp 26) rfl wr.heap.size sz (sz + 1) (.slice a4 sz c5) VL1 rfl HOa.out (some ⟨w4.heap.size, 0, none⟩) 1 1 rfl [1] HVa.out rfl rfl (by omega) HBa.out.size ?_)))
        intro v6 w6 hown6 hgrow6 hat6
        obtain ⟨a6, c6, rfl⟩ := owns_slice0 hown6
        have HB6 : Hid (Below wr.heap.size wr w6) := HBa.out.grown hgrow6 HBa.out.size (fun b hb => (HOa.out.lt b hb).1)
        have HO6 : Hid (w6.ownsRow wr.heap.size 5 1 (.slice a6 (sz + 1) c6) (sz + 1) (cellsU8 (VL1 ++ [1]))) := hown6
        clear hown6 hgrow6 hat6 HOa HBa HVa HO4 HB4
        have HX6 : Hid (View w6 (.slice xa xn xc) xs) := (HRr.out.2.view hx.out hxg.out).kept fun b hb => HB6.out.block b hb
        go_wp2_with (first | (at_builtin; go_must (refine wpList_append_view rfl (.tmp 28) (.tmp 29) rfl wr.heap.size (sz + 1) (sz + 1 + xn) (.slice a6 (sz + 1) c6) (VL1 ++ [1]) rfl HO6.out xa xn xc rfl xs HX6.out hxl.out rfl (by omega) HB6.out.size ?_)))
        intro v7 w7 hown7 hgrow7 hat7
        obtain ⟨a7, c7, rfl⟩ := owns_slice0 hown7
        have HB7 : Hid (Below wr.heap.size wr w7) := HB6.out.grown hgrow7 HB6.out.size (fun b hb => (HO6.out.lt b hb).1)
        have HV7 : Hid (View w7 (.slice a7 (sz + 1 + xn) c7) (VL1 ++ (1 : Int) :: xs)) := by
          have q := viewOwns hown7 (by simp [HVl.out, hxl.out]; omega)
          have q2 : View w7 (.slice a7 (sz + 1 + xn) c7) (VL1 ++ (1 : Int) :: xs) := by simpa using q
          exact q2
        have HR7 : Hid (RSp w7 g dg L c ka1 kc1 va1 vc1 KL1 VL1) := HRr.out.1.below HB7.out
        clear hown7 hgrow7 hat7 HO6 HB6 HX6 HV
        obtain ⟨Z1, HZ1⟩ : ∃ Z, Hid (Z = hmac dg KL1 (VL1 ++ (1 : Int) :: xs)) := ⟨_, rfl⟩
        have HZ1l : Hid (Z1.length = sz) := by show _ = _; rw [HZ1.out, hmac_len k.out, HSZ.out]
        have HC7 : Hid (∀ u, Sm w7 u → Calls Tryd.prog 32 #[.int .i64 dg, .slice ka1 sz kc1, .slice a7 (sz + 1 + xn) c7] u fun e w' => Hid (∃ a8 c8, e = .returned (.slice a8 sz c8) ∧ View w' (.slice a8 sz c8) Z1 ∧ (∀ b off, a8 = some ⟨b, off, none⟩ → wr.heap.size ≤ b) ∧ Below wr.heap.size wr w')) := fun u hu => by
          have hbu := Below.ofSm HB7.out hu
          have q := rcode_walk dg ka1 sz kc1 a7 (sz + 1 + xn) c7 KL1 (VL1 ++ (1 : Int) :: xs) u k ((hR.out.touch HRr.out.2 hg).below hbu (by have := (hR.out.touch HRr.out.2 hg).size; omega)) (by show View _ _ _; rw [HSZ.out]; exact hu.view HR7.out.vK) (by show _ = _; rw [HSZ.out]; exact HR7.out.lK) (hu.view HV7.out) (by show _ = _; simp [HVl.out, hxl.out]; omega) (by omega) (by omega)
          rw [← HSZ.out, ← HZ1.out] at q
          refine q.mono ?_
          rintro e w' ⟨v', r1, r2, r3⟩
          obtain ⟨a8, c8, rfl⟩ := owns_slice0 r2
          exact ⟨a8, c8, r1, viewOwns r2 HZ1l.out, fun b off e => by have := (r2.lt b (by rw [e]; rfl)).1; have := hbu.size; omega, hbu.trans (r3.mono hbu.size)⟩
        have c0 := HR7.out.c0
        have c3 := HR7.out.c3
        rw [← HSZ.out] at c3
        go_upto_region 8 with fail
        go_region_with (go_at_call 32; refine (HC7.out _ ?_).mono ?_; exact ⟨rfl, rfl, rfl, rfl⟩; intro e8 w8 hh; obtain ⟨a8, c8, rfl, hv8, ha8, hb8⟩ := hh.out; have p3 : w8.cell? ⟨g, 3, none⟩ = some (.slice ka1 (szOf dg) kc1) := (HRr.out.1.below hb8).c3; have z3 : w8.frozen? ⟨g, 3, none⟩ = false := (by have := ((HRr.out.1.below hb8).there 3 (by omega)).2; simpa using this))
        all_goals
          have HR9 : Hid (RSp (w8.setCell ⟨g, 3, none⟩ (.slice a8 sz c8)) g dg L c a8 c8 va1 vc1 Z1 VL1 ∧ Touch w (w8.setCell ⟨g, 3, none⟩ (.slice a8 sz c8)) g 0 5) := by
            have q := (HRr.out.1.below hb8).setK a8 c8 Z1 (by rw [← HSZ.out]; exact hv8) (by rw [← HSZ.out]; exact HZ1l.out) (fun b off e => by have := ha8 b off e; have := HRr.out.1.lt; omega)
            rw [← HSZ.out] at q
            exact ⟨q, (HRr.out.2.trans ((Touch.refl wr g 0 5).below hb8 HRr.out.1.lt)).setCell 3 _ (by omega) (by omega)⟩
          have HN8 : Hid (∀ b off, a8 = some ⟨b, off, none⟩ → w.heap.size ≤ b) := fun b off e => Nat.le_trans HRr.out.2.size (ha8 b off e)
          generalize w8.setCell ⟨g, 3, none⟩ (.slice a8 sz c8) = w9 at HR9 ⊢
          clear hh hv8 ha8 hb8 p3 z3 c0 c3 HC7 HR7 HV7 HB7 HRr
          obtain ⟨Z2, HZ2⟩ : ∃ Z, Hid (Z = hmac dg Z1 VL1) := ⟨_, rfl⟩
          have HZ2l : Hid (Z2.length = sz) := by show _ = _; rw [HZ2.out, hmac_len k.out, HSZ.out]
          have HC9 : Hid (∀ u, Sm w9 u → Calls Tryd.prog 32 #[.int .i64 dg, .slice a8 sz c8, .slice va1 sz vc1] u fun e w' => Hid (∃ a0 c0, e = .returned (.slice a0 sz c0) ∧ View w' (.slice a0 sz c0) Z2 ∧ (∀ b off, a0 = some ⟨b, off, none⟩ → w9.heap.size ≤ b) ∧ Below w9.heap.size w9 w')) := fun u hu => by
            have hbu : Below w9.heap.size w9 u := Below.ofSm (Below.refl _ _) hu
            have q := rcode_walk dg a8 sz c8 va1 sz vc1 Z1 VL1 u k ((hR.out.touch HR9.out.2 hg).below hbu (by have := (hR.out.touch HR9.out.2 hg).size; omega)) (by show View _ _ _; have r := HR9.out.1.vK; rw [← HSZ.out] at r; exact hu.view r) HZ1l (by show View _ _ _; have r := HR9.out.1.vV; rw [← HSZ.out] at r; exact hu.view r) HVl (by omega) (by omega)
            rw [← HSZ.out, ← HZ2.out] at q
            refine q.mono ?_
            rintro e w' ⟨v', r1, r2, r3⟩
            obtain ⟨a0, c0, rfl⟩ := owns_slice0 r2
            exact ⟨a0, c0, r1, viewOwns r2 HZ2l.out, fun b off e => by have := (r2.lt b (by rw [e]; rfl)).1; have := hbu.size; omega, hbu.trans (r3.mono hbu.size)⟩
          have c0 := HR9.out.1.c0
          have c3 := HR9.out.1.c3
          have c4 := HR9.out.1.c4
          rw [← HSZ.out] at c3 c4
          go_upto_region 9 with fail
          go_region_with (go_at_call 32; refine (HC9.out _ ?_).mono ?_; exact ⟨rfl, rfl, rfl, rfl⟩; intro e10 w10 hh; obtain ⟨a10, c10, rfl, hv10, ha10, hb10⟩ := hh.out; have p4 : w10.cell? ⟨g, 4, none⟩ = some (.slice va1 (szOf dg) vc1) := (HR9.out.1.below hb10).c4; have z4 : w10.frozen? ⟨g, 4, none⟩ = false := (by have := ((HR9.out.1.below hb10).there 4 (by omega)).2; simpa using this))
          all_goals
            have HR11 : Hid (RSp (w10.setCell ⟨g, 4, none⟩ (.slice a10 sz c10)) g dg L c a8 c8 a10 c10 (rst dg KL VL xs (1 + 1)).1 (rst dg KL VL xs (1 + 1)).2 ∧ Touch w (w10.setCell ⟨g, 4, none⟩ (.slice a10 sz c10)) g 0 5) := by
              have q := (HR9.out.1.below hb10).setV a10 c10 Z2 (by rw [← HSZ.out]; exact hv10) (by rw [← HSZ.out]; exact HZ2l.out) (fun b off e => by have := ha10 b off e; have := HR9.out.1.lt; omega)
              rw [← HSZ.out] at q
              have e1 : (rst dg KL VL xs (1 + 1)).1 = Z1 := by rw [HZ1.out, HK1.out, HV1.out]; rfl
              have e2 : (rst dg KL VL xs (1 + 1)).2 = Z2 := by rw [HZ2.out, HZ1.out, HK1.out, HV1.out]; rfl
              rw [e1, e2]
              exact ⟨q, (HR9.out.2.trans ((Touch.refl w9 g 0 5).below hb10 HR9.out.1.lt)).setCell 4 _ (by omega) (by omega)⟩
            have HN11 : Hid (New2 w a8 a10) := ⟨HN8.out, fun b off e => Nat.le_trans HR9.out.2.size (ha10 b off e)⟩
            generalize w10.setCell ⟨g, 4, none⟩ (.slice a10 sz c10) = w11 at HR11 ⊢
            clear hh hv10 ha10 hb10 p4 z4 c0 c3 c4 HC9 HR9
            go_wp2
            go_roundw
            case rel => exact ⟨1 + 1, a8, c8, a10, c10, by go_num, by omega, by omega, HR11.out.1, HR11.out.2, fun _ => HN11.out⟩
            case measure => simp [intOf]
    · obtain rfl : q = 2 := by omega
      have hx0 := hq2 rfl
      have HE : Hid (RUpd w wr g dg L c KL VL xs) := by show RUpd _ _ _ _ _ _ _ _ _; unfold RUpd; rw [hxl.out, if_neg hx0]; exact ⟨_, _, _, _, HR.out.1, HR.out.2.1, HR.out.2.2 (by decide)⟩
      clear HR
      go_wp2
      go_end0
      exact ⟨rfl, HE.out⟩
end Go.Proofs.YtkeklmkaleomkaaDoor
namespace Go.Proofs.YtkeklmkaleomkaaDoor
open Go.RowKit
set_option linter.unusedVariables false
set_option linter.unusedSimpArgs false
/-- V, turned so often. -/
def vq (h : Int) (K V : Nat → Int) : Nat → Nat → Int
  | 0 => V
  | j + 1 => turnV h K (vq h K V j)
/-- The bytes that are given. -/
def gv (h : Int) (K V : Nat → Int) (i : Nat) : Int := vq h K V (i / szOf h + 1) (i % szOf h)
structure OutAt (w : World) (b n : Nat) (F : Nat → Int) : Prop where
  cells : ∀ i, i < n → w.cell? ⟨b, i, none⟩ = some (.int .u8 (F i))
  there : w.there b 0 n
  lt : b < w.heap.size
theorem OutAt.touch {w v : World} {b n g o m : Nat} {F : Nat → Int} (h : OutAt w b n F) (t : Touch w v g o m) (hne : b ≠ g) : OutAt v b n F :=
  ⟨fun i hi => by rw [t.far (p := ⟨b, i, none⟩) h.lt hne]; exact h.cells i hi, t.thereFar h.there h.lt hne, Nat.lt_of_lt_of_le h.lt t.size⟩
theorem OutAt.lay {w : World} {b n at_ kk : Nat} {F G : Nat → Int} (h : OutAt w b n F) (z : List Int) (hz : z.length = kk) (hk : at_ + kk ≤ n) (h1 : ∀ i, i < n → i < at_ ∨ at_ + kk ≤ i → G i = F i) (h2 : ∀ i, i < kk → G (at_ + i) = z.getD i 0) : OutAt (w.setCells b at_ (cellsU8 z)) b n G := by
  have hl : (cellsU8 z).length = z.length := cellsU8_length z
  refine ⟨fun i hi => ?_, World.there_setCells h.there _ _ _, by rw [size_setCells]; exact h.lt⟩
  by_cases hc : i < at_ ∨ at_ + kk ≤ i
  · rw [World.cell?_setCells_out b _ at_ w ⟨b, i, none⟩ (fun _ _ => by rw [hl, hz]; exact hc), h1 i hi hc]
    exact h.cells i hi
  · obtain ⟨r, rfl⟩ : ∃ r, i = at_ + r := ⟨i - at_, by omega⟩
    rw [h2 r (by omega)]
    have hth : w.there b at_ (cellsU8 z).length := fun j hj => by
      have q := h.there (at_ + j) (by rw [hl, hz] at hj; omega)
      rwa [Nat.zero_add] at q
    exact World.rangeAt_setCells_same w b at_ (cellsU8 z) hth r _ (cellU8_at (by omega))
theorem OutAt.view {w : World} {b n : Nat} {F : Nat → Int} (h : OutAt w b n F) (hn : n ≤ 65536) : View w (.slice (some ⟨b, 0, none⟩) n n) (fL F n) := by
  refine ⟨_, n, by rw [fL_length], by rw [fL_length]; exact Nat.le_refl _, by unfold maxLen; omega, (fun e => by cases e), .inr ⟨b, 0, rfl, fun i hi => ?_⟩⟩
  rw [fL_length] at hi
  rw [fL_get F n i hi, Nat.zero_add]
  exact h.cells i hi
theorem gv_at {h : Int} (k : Known h) (K V : Nat → Int) (q i : Nat) (hi : i < szOf h) : gv h K V (q * szOf h + i) = vq h K V (q + 1) i := by
  have hs := szOf_pos k
  have e1 : (q * szOf h + i) / szOf h = q := by rw [Nat.mul_comm, Nat.mul_add_div (by omega), Nat.div_eq_of_lt hi, Nat.add_zero]
  have e2 : (q * szOf h + i) % szOf h = i := by rw [Nat.mul_comm, Nat.mul_add_mod, Nat.mod_eq_of_lt hi]
  unfold gv
  rw [e1, e2]
theorem made_get (n i : Nat) (hi : i < n) : ((madeCells #[Value.int .u8 0] n).toList)[i]? = some (.int .u8 0) := by
  simp [madeCells, hi, Nat.mod_one]
theorem ceil_eq (n sz q : Nat) (hs : 1 ≤ sz) (h1 : n ≤ q * sz) (h2 : q = 0 ∨ (q - 1) * sz < n) : (n + sz - 1) / sz = q := by
  rcases h2 with rfl | h2
  · rw [Nat.zero_mul] at h1
    rw [Nat.div_eq_of_lt (by omega)]
  · obtain ⟨p, rfl⟩ : ∃ p, q = p + 1 := ⟨q - 1, by
      rcases Nat.eq_zero_or_pos q with e | e
      · subst e; omega
      · omega⟩
    rw [Nat.add_sub_cancel] at h2
    rw [Nat.succ_mul] at h1
    refine Nat.div_eq_of_lt_le ?_ ?_
    · rw [Nat.succ_mul]; omega
    · rw [Nat.succ_mul, Nat.succ_mul]; omega
set_option maxHeartbeats 3200000 in
set_option maxRecDepth 100000 in
/-- state.give. -/
theorem give_ok (g : Nat) (dg : Int) (K V : Nat → Int) (L c : Int) (n : Nat) (w : World) (k : Hid (Known dg)) (hs : Hid (SpAt w g dg K V L c)) (hT : Hid (Tables w)) (hg : 4 ≤ g) (hn : n ≤ 65536) :
    Calls Tryd.prog 26 #[.pointer (some ⟨g, 0, none⟩), .int .i64 (n : Nat)] w fun e w' => ∃ b, e = .returned (.slice (some ⟨b, 0, none⟩) n n) ∧ w.heap.size ≤ b ∧ View w' (.slice (some ⟨b, 0, none⟩) n n) (fL (gv dg K V) n) ∧ SpAt w' g dg K (vq dg K V ((n + szOf dg - 1) / szOf dg)) L c ∧ Touch w w' g 0 131 := by
  obtain ⟨sz, HSZ⟩ : ∃ n : Nat, Hid (n = szOf dg) := ⟨_, (show _ = _ from rfl)⟩
  have hsz : 1 ≤ sz ∧ sz ≤ 64 := by rw [HSZ.out]; exact szOf_pos k.out
  obtain ⟨i0, hi0, hz0, hz1, hz2⟩ := info_parts Tryd.info5
  have HGW : Hid (g < w.heap.size) := hs.out.lt
  go_enter Tryd.func26, Tryd.ntmps26
  go_wp2_with (first
    | (at_make; go_must (refine wpList_make_full _ rfl _ _ 22 rfl w.heap.size 5 i0 (.int .u8 0) 1 Tryd.underlying22 hi0 hz0 hz1 .i64 .i64 (n : Nat) (n : Nat) n rfl rfl rfl rfl ?_ ?_ ?_ ?_)))
  · rw [hz2]; omega
  · unfold maxLen; omega
  · exact Nat.le_refl _
  intro w1 hown hgrow
  have hb1 : Below w.heap.size w w1 := (Below.refl _ _).grown hgrow (Nat.le_refl _) (by intro k hk; cases hk)
  have HO1 : Hid (OutAt w1 w.heap.size n (fun i => if i < 0 then gv dg K V i else 0)) := by
    have hth : ∀ j, j < n → w1.cell? ⟨w.heap.size, j, none⟩ = some (.int .u8 0) := fun j hj => by
      rw [hown.cellAt j (by omega)]
      exact made_get n j hj
    refine ⟨fun i hi => by rw [hth i hi]; simp, fun j hj => ?_, (hown.lt _ rfl).2⟩
    rw [Nat.zero_add]
    exact ⟨by rw [hth j hj]; rfl, hown.frozenAt j⟩
  have HT1 : Hid (Touch w w1 g 0 131) := (Touch.refl w g 0 131).below hb1 HGW.out
  have HS1 : Hid (SpAt w1 g dg K (vq dg K V 0) L c) := hs.out.below hb1
  clear hown hgrow hb1
  go_wp2
  go_loopw [6] (fun vi wr => ∃ q at_ : Nat, vi = .int .i64 (at_ : Nat) ∧ at_ ≤ 65600 ∧ Hid (at_ = q * sz) ∧ Hid (q = 0 ∨ (q - 1) * sz < n) ∧ Hid (Touch w wr g 0 131 ∧ SpAt wr g dg K (vq dg K V q) L c ∧ OutAt wr w.heap.size n (fun i => if i < at_ then gv dg K V i else 0))) (fun vi _ => n - (intOf vi).toNat)
  case atStart => exact ⟨0, 0, rfl, by omega, (by show 0 = _; rw [Nat.zero_mul]), .inl rfl, HT1.out, HS1.out, HO1.out⟩
  case round =>
    obtain ⟨q, at_, rfl, hat, HA, HQ, HR⟩ := hrel
    clear HO1 HT1 HS1
    by_cases hlt : (at_ : Int) < (n : Nat)
    · have HTT : Hid (Tables wr) := hT.out.touch HR.out.1 hg
      have HSr : Hid (SpAt wr g dg K (vq dg K V q) L c) := HR.out.2.1
      go_upto_region 6 with (go_at_call 41; refine (turn_ok g dg K (vq dg K V q) L c wr k HSr HTT).mono ?_; rintro e2 w2 ⟨rfl, hs2, ht2⟩)
      have HS2 : Hid (SpAt w2 g dg K (vq dg K V (q + 1)) L c) := hs2
      have HT2 : Hid (Touch w w2 g 0 131) := HR.out.1.trans ht2
      have HO2 : Hid (OutAt w2 w.heap.size n (fun i => if i < at_ then gv dg K V i else 0)) := HR.out.2.2.touch ht2 (by have := HGW.out; omega)
      clear hs2 ht2 HSr HR HTT
      obtain ⟨kk, hkk⟩ : ∃ kk, kk = min sz (n - at_) := ⟨_, rfl⟩
      have c0 : w2.cell? ⟨g, 0, none⟩ = some (.int .i64 dg) := HS2.out.hash
      have hat1 : (at_ : Int) ≤ (n : Nat) := by omega
      have hsz1 : ((sz : Nat) : Int) ≤ 64 := by omega
      have hsz0 : (0 : Int) ≤ ((sz : Nat) : Int) := by omega
      have hcp := copy_eq w2.drew w.heap.size at_ (n - at_) (n - at_) (some ⟨g, 65, none⟩) sz 64 kk (fL (vq dg K V (q + 1)) sz) hkk ((Sm.refl w2).drew.view (HS2.out.viewV sz (by omega))) (fun j hj => by
        have q := HO2.out.there (at_ + j) (by omega)
        rwa [Nat.zero_add] at q)
      have HX : Hid (Touch w (w2.drew.setCells w.heap.size at_ (cellsU8 (List.take kk (fL (vq dg K V (q + 1)) sz)))) g 0 131 ∧ SpAt (w2.drew.setCells w.heap.size at_ (cellsU8 (List.take kk (fL (vq dg K V (q + 1)) sz)))) g dg K (vq dg K V (q + 1)) L c ∧ OutAt (w2.drew.setCells w.heap.size at_ (cellsU8 (List.take kk (fL (vq dg K V (q + 1)) sz)))) w.heap.size n (fun i => if i < at_ + sz then gv dg K V i else 0) ∧ Hid (at_ + sz = (q + 1) * sz) ∧ Hid (q + 1 = 0 ∨ (q + 1 - 1) * sz < n)) := by
        have hgw := HGW.out
        refine ⟨touch_new HT2.out.drew (Nat.le_refl _) _ _ hgw, ?_, ?_, (by show _ = _; rw [Nat.succ_mul, HA.out]), .inr (by rw [Nat.add_sub_cancel, ← HA.out]; omega)⟩
        · have s0 : SpAt w2.drew g dg K (vq dg K V (q + 1)) L c := ⟨HS2.out.hash, HS2.out.key, HS2.out.val, HS2.out.lim, HS2.out.cnt, HS2.out.there⟩
          have hc : ∀ j, (w2.drew.setCells w.heap.size at_ (cellsU8 (List.take kk (fL (vq dg K V (q + 1)) sz)))).cell? ⟨g, j, none⟩ = w2.drew.cell? ⟨g, j, none⟩ := fun j => World.cell?_setCells_out _ _ _ _ ⟨g, j, none⟩ (fun e => by have e' : g = w.heap.size := e; omega)
          exact ⟨by rw [hc]; exact s0.hash, fun i hi => by rw [hc]; exact s0.key i hi, fun i hi => by rw [hc]; exact s0.val i hi, by rw [hc]; exact s0.lim, by rw [hc]; exact s0.cnt, World.there_setCells s0.there _ _ _⟩
        · have o0 : OutAt w2.drew w.heap.size n (fun i => if i < at_ then gv dg K V i else 0) := ⟨HO2.out.cells, HO2.out.there, HO2.out.lt⟩
          refine o0.lay (kk := kk) _ (by rw [List.length_take, fL_length]; omega) (by omega) (fun i hi hc => ?_) (fun i hi => ?_)
          · by_cases h1 : i < at_
            · rw [if_pos h1, if_pos (by omega)]
            · rw [if_neg h1, if_neg (by omega)]
          · rw [if_pos (by omega), HA.out, HSZ.out, gv_at k.out K V q i (by rw [← HSZ.out]; omega), fL_take _ _ _ (by rw [← HSZ.out]; omega), fL_get _ _ _ hi]
      clear HO2 HT2 HA HQ
      have HKK : Hid (kk = min sz (n - at_)) := hkk
      clear hkk
      go_region_with (go_at_call 39; refine (size_known k.out _).mono ?_; rintro e5 w5 ⟨rfl, hw5⟩; obtain rfl := hw5.symm; rw [← HSZ.out])
      clear hcp c0
      generalize w2.drew.setCells w.heap.size at_ (cellsU8 (List.take kk (fL (vq dg K V (q + 1)) sz))) = w3 at HX ⊢
      have c0 : w3.cell? ⟨g, 0, none⟩ = some (.int .i64 dg) := HX.out.2.1.hash
      go_wp2_with (go_at_call 39; refine (size_known k.out _).mono ?_; rintro e5 w5 ⟨rfl, hw5⟩; obtain rfl := hw5.symm; rw [← HSZ.out])
      go_roundw
      case rel => exact ⟨q + 1, at_ + sz, by go_num, by omega, HX.out.2.2.2.1, HX.out.2.2.2.2, HX.out.1, HX.out.2.1, HX.out.2.2.1⟩
      case measure => simp [intOf]; omega
    · have HF : Hid (View wr (.slice (some ⟨w.heap.size, 0, none⟩) n n) (fL (gv dg K V) n) ∧ SpAt wr g dg K (vq dg K V ((n + szOf dg - 1) / szOf dg)) L c ∧ Touch w wr g 0 131) := by
        refine ⟨?_, ?_, HR.out.1⟩
        · have q1 : OutAt wr w.heap.size n (gv dg K V) := ⟨fun i hi => by rw [HR.out.2.2.cells i hi, if_pos (by omega)], HR.out.2.2.there, HR.out.2.2.lt⟩
          exact q1.view hn
        · rw [← HSZ.out, ceil_eq n sz q hsz.1 (by have := HA.out; omega) HQ.out]
          exact HR.out.2.1
      clear HR HA HQ
      go_wp2
      go_ret
      exact ⟨w.heap.size, rfl, Nat.le_refl _, HF.out⟩
end Go.Proofs.YtkeklmkaleomkaaDoor
namespace Go.Proofs.YtkeklmkaleomkaaDoor
open Go.RowKit
set_option linter.unusedVariables false
set_option linter.unusedSimpArgs false
/-- The state ahead of a draw, with what is handed in. -/
def preK (d : Int) (K V : Nat → Int) (ys : List Int) : Nat → Int := if ys = [] then K else updK d K V ys
def preV (d : Int) (K V : Nat → Int) (ys : List Int) : Nat → Int := if ys = [] then V else updV d K V ys
/-- The state behind it. -/
def drV0 (d : Int) (K V : Nat → Int) (ys : List Int) (n : Nat) : Nat → Int := vq d (preK d K V ys) (preV d K V ys) ((n + szOf d - 1) / szOf d)
def drK (d : Int) (K V : Nat → Int) (ys : List Int) (n : Nat) : Nat → Int := updK d (preK d K V ys) (drV0 d K V ys n) ys
def drV (d : Int) (K V : Nat → Int) (ys : List Int) (n : Nat) : Nat → Int := updV d (preK d K V ys) (drV0 d K V ys n) ys
def drO (d : Int) (K V : Nat → Int) (ys : List Int) : Nat → Int := gv d (preK d K V ys) (preV d K V ys)
theorem SpAt.setC {w : World} {g : Nat} {h : Int} {K V : Nat → Int} {L c : Int} (s : SpAt w g h K V L c) (x : Int) : SpAt (w.setCell ⟨g, 130, none⟩ (.int .i64 x)) g h K V L x := by
  have out : ∀ j, j ≠ 130 → (w.setCell ⟨g, 130, none⟩ (.int .i64 x)).cell? ⟨g, j, none⟩ = w.cell? ⟨g, j, none⟩ := fun j hj => World.cell?_setCell_other _ _ _ _ (by intro q; injection q with _ q2; omega)
  exact ⟨by rw [out 0 (by omega)]; exact s.hash, fun i hi => by rw [out _ (by omega)]; exact s.key i hi, fun i hi => by rw [out _ (by omega)]; exact s.val i hi, by rw [out _ (by omega)]; exact s.lim, World.cell?_setCell_same' _ _ _ (by rw [s.cnt]; rfl), World.there_setCells s.there g 130 [.int .i64 x]⟩
set_option maxHeartbeats 3200000 in
set_option maxRecDepth 100000 in
/-- Draw, of what must be given. -/
theorem spdraw (g : Nat) (dg : Int) (K V : Nat → Int) (L c : Int) (n : Nat) (v : Value) (yss : List (List Int)) (w : World) (k : Hid (Known dg)) (hs : Hid (SpAt w g dg K V L c)) (hT : Hid (Tables w)) (hp : Hid (PL w g v yss)) (hl : Hid (yss.flatten.length ≤ 65536)) (hlb : Hid ((2 + yss.length) * 24 ≤ 140737488355328)) (hg : 4 ≤ g) (hn : n ≤ 65536) (hc : c ≠ L) (hc0 : 0 ≤ c) (hc1 : c ≤ 16777216) :
    Calls Tryd.prog 12 #[.pointer (some ⟨g, 0, none⟩), .int .i64 (n : Nat), v] w fun e w' => ∃ b, e = .returned (.tuple #[.slice (some ⟨b, 0, none⟩) n n, .int .i64 0]) ∧ w.heap.size ≤ b ∧ View w' (.slice (some ⟨b, 0, none⟩) n n) (fL (drO dg K V yss.flatten) n) ∧ SpAt w' g dg (drK dg K V yss.flatten n) (drV dg K V yss.flatten n) L (c + 1) ∧ Touch w w' g 0 131 := by
  obtain ⟨N, HNN⟩ : ∃ N, Hid (N = yss.flatten.length) := ⟨_, rfl⟩
  obtain ⟨ys, HY⟩ : ∃ ys, Hid (ys = yss.flatten) := ⟨_, rfl⟩
  have hN : N ≤ 65536 := by rw [HNN.out]; exact hl.out
  have HGW : Hid (g < w.heap.size) := hs.out.lt
  have HJ : Hid (∀ u, PL u g v yss → Calls Tryd.prog 25 #[v] u fun e w' => e = .returned (.int .i64 (N : Nat)) ∧ w' = u) := fun u hu => by
    have q := joined_ok g v yss u hu.parts (by show _ ≤ _; have := hl.out; omega)
    rw [← HNN.out] at q
    exact q
  have HU : Hid (∀ (u : World) (K V : Nat → Int), SpAt u g dg K V L c → Tables u → PL u g v yss → Calls Tryd.prog 24 #[.pointer (some ⟨g, 0, none⟩), v] u fun e w' => Hid (e = .returned (.tuple #[]) ∧ SpAt w' g dg (updK dg K V ys) (updV dg K V ys) L c ∧ Touch u w' g 0 131)) := fun u K V h1 h2 h3 => by
    have q := update_ok g dg K V L c v yss u k h1 h2 h3 (by show _ ≤ _; have := hl.out; omega) hlb hg
    rw [← HY.out] at q
    exact q
  have c1 : w.cell? ⟨g, 129, none⟩ = some (.int .i64 L) := hs.out.lim
  have c2 : w.cell? ⟨g, 130, none⟩ = some (.int .i64 c) := hs.out.cnt
  have hcb : (c == L) = false := by simpa using hc
  have d1 : decide ((65536 : Int) < (n : Nat)) = false := by simp; omega
  have d2 : decide ((65536 : Int) < (N : Nat)) = false := by simp; omega
  have d3 : ¬ ((n : Nat) : Int) < 0 := by omega
  rw [← HY.out]
  go_enter Tryd.func12, Tryd.ntmps12
  go_upto_region 7 with (go_at_call 25; refine (HJ.out _ hp.out).mono ?_; rintro e5 w5 ⟨rfl, hw5⟩; obtain rfl := hw5.symm)
  go_quiet (fail)
  have HSw : Hid (SpAt (w.drewN nq) g dg K V L c) := ⟨hs.out.hash, hs.out.key, hs.out.val, hs.out.lim, hs.out.cnt, hs.out.there⟩
  have HTw : Hid (Touch w (w.drewN nq) g 0 131) := (Touch.refl w g 0 131).drewN nq
  generalize w.drewN nq = wd at HSw HTw ⊢
  have HTTw : Hid (Tables wd) := hT.out.touch HTw.out hg
  have HPw : Hid (PL wd g v yss) := hp.out.touch HTw.out
  obtain ⟨K1, HK1⟩ : ∃ K1, Hid (K1 = preK dg K V ys) := ⟨_, rfl⟩
  obtain ⟨V1, HV1⟩ : ∃ V1, Hid (V1 = preV dg K V ys) := ⟨_, rfl⟩
  clear c1 c2
  by_cases h0 : N = 0
  · subst h0
    have HE : Hid (ys = []) := List.eq_nil_of_length_eq_zero (by rw [HY.out]; exact HNN.out.symm)
    obtain ⟨wa, hwa⟩ : ∃ wa, wa = wd := ⟨_, rfl⟩
    have HSa : Hid (SpAt wa g dg K1 V1 L c) := by
      show SpAt _ _ _ _ _ _ _
      rw [HK1.out, HV1.out, hwa, preK, preV, if_pos HE.out, if_pos HE.out]
      exact HSw.out
    have HTa : Hid (Touch w wa g 0 131) := by rw [hwa]; exact HTw.out
    rw [← hwa] at HPw ⊢
    clear hwa HSw HTw HTTw
    have HTTa : Hid (Tables wa) := hT.out.touch HTa.out hg
    have HPa : Hid (PL wa g v yss) := hp.out.touch HTa.out
    have HG : Hid (Calls Tryd.prog 26 #[.pointer (some ⟨g, 0, none⟩), .int .i64 (n : Nat)] wa fun e w' => Hid (∃ b, e = .returned (.slice (some ⟨b, 0, none⟩) n n) ∧ wa.heap.size ≤ b ∧ View w' (.slice (some ⟨b, 0, none⟩) n n) (fL (drO dg K V ys) n) ∧ SpAt w' g dg K1 (drV0 dg K V ys n) L c ∧ Touch wa w' g 0 131)) := by
      have q := give_ok g dg K1 V1 L c n wa k HSa HTTa hg hn
      rw [HK1.out, HV1.out] at q
      rw [HK1.out]
      exact q
    go_wp2_with (first | (go_at_call 25; refine (HJ.out _ HPw.out).mono ?_; rintro e5 w5 ⟨rfl, hw5⟩; obtain rfl := hw5.symm) | (go_at_call 26; refine HG.out.mono ?_))
    intro e3 w3 hh
    obtain ⟨b, rfl, hb3, hv3, hs3, ht3⟩ := hh.out
    have HT3 : Hid (Touch w w3 g 0 131) := HTa.out.trans ht3
    have HS3 : Hid (SpAt w3 g dg K1 (drV0 dg K V ys n) L c) := hs3
    have HV3 : Hid (View w3 (.slice (some ⟨b, 0, none⟩) n n) (fL (drO dg K V ys) n) ∧ w.heap.size ≤ b) := ⟨hv3, Nat.le_trans HTa.out.size hb3⟩
    have HTT3 : Hid (Tables w3) := hT.out.touch HT3.out hg
    have HP3 : Hid (PL w3 g v yss) := hp.out.touch HT3.out
    clear hh hb3 hv3 hs3 ht3 HG HTTa HPa HSa HTa
    go_wp2_with (go_at_call 24; refine (HU.out _ _ _ HS3.out HTT3.out HP3.out).mono ?_)
    intro e4 w4 hh
    obtain ⟨rfl, hs4, ht4⟩ := hh.out
    have HS4 : Hid (SpAt w4 g dg (drK dg K V ys n) (drV dg K V ys n) L c) := by
      show SpAt _ _ _ _ _ _ _
      have q := hs4
      rw [HK1.out] at q
      exact q
    have HT4 : Hid (Touch w w4 g 0 131) := HT3.out.trans ht4
    have HV4 : Hid (View w4 (.slice (some ⟨b, 0, none⟩) n n) (fL (drO dg K V ys) n)) := ht4.view HV3.out.1 (fun b' off l c' e => .inl (by injection e with e1 _ _; injection e1 with e1; injection e1 with e2 _; have := HV3.out.2; have := HGW.out; omega))
    have c3 : w4.cell? ⟨g, 130, none⟩ = some (.int .i64 c) := HS4.out.cnt
    have f3 : w4.frozen? ⟨g, 130, none⟩ = false := by have := (HS4.out.there 130 (by omega)).2; simpa using this
    have HF : Hid (View (w4.setCell ⟨g, 130, none⟩ (.int .i64 (c + 1))) (.slice (some ⟨b, 0, none⟩) n n) (fL (drO dg K V ys) n) ∧ SpAt (w4.setCell ⟨g, 130, none⟩ (.int .i64 (c + 1))) g dg (drK dg K V ys n) (drV dg K V ys n) L (c + 1) ∧ Touch w (w4.setCell ⟨g, 130, none⟩ (.int .i64 (c + 1))) g 0 131) := by
      have t5 : Touch w4 (w4.setCell ⟨g, 130, none⟩ (.int .i64 (c + 1))) g 0 131 := (Touch.refl w4 g 0 131).setCell 130 _ (by omega) (by omega)
      exact ⟨t5.view HV4.out (fun b' off l c' e => .inl (by injection e with e1 _ _; injection e1 with e1; injection e1 with e2 _; have := HV3.out.2; have := HGW.out; omega)), HS4.out.setC (c + 1), HT4.out.trans t5⟩
    clear hh hs4 ht4 HS3 HT3 HTT3 HP3
    go_wp2
    go_ret2
    exact ⟨b, rfl, HV3.out.2, HF.out.1, HF.out.2.1, HF.out.2.2⟩
  · have h1 : (0 : Int) < (N : Nat) := by omega
    have HE : Hid (ys ≠ []) := fun e => h0 (by rw [HNN.out, ← HY.out, e]; rfl)
    go_wp2_with (first
      | (go_at_call 25; refine (HJ.out _ HPw.out).mono ?_; rintro e5 w5 ⟨rfl, hw5⟩; obtain rfl := hw5.symm)
      | (go_at_call 24; refine (HU.out _ _ _ HSw.out HTTw.out HPw.out).mono ?_))
    intro e2 wa hh
    obtain ⟨rfl, hsa, hta⟩ := hh.out
    have HSa : Hid (SpAt wa g dg K1 V1 L c) := by
      show SpAt _ _ _ _ _ _ _
      rw [HK1.out, HV1.out, preK, preV, if_neg HE.out, if_neg HE.out]
      exact hsa
    have HTa : Hid (Touch w wa g 0 131) := HTw.out.trans hta
    clear hh hsa hta HSw HTw HTTw
    have HTTa : Hid (Tables wa) := hT.out.touch HTa.out hg
    have HPa : Hid (PL wa g v yss) := hp.out.touch HTa.out
    have HG : Hid (Calls Tryd.prog 26 #[.pointer (some ⟨g, 0, none⟩), .int .i64 (n : Nat)] wa fun e w' => Hid (∃ b, e = .returned (.slice (some ⟨b, 0, none⟩) n n) ∧ wa.heap.size ≤ b ∧ View w' (.slice (some ⟨b, 0, none⟩) n n) (fL (drO dg K V ys) n) ∧ SpAt w' g dg K1 (drV0 dg K V ys n) L c ∧ Touch wa w' g 0 131)) := by
      have q := give_ok g dg K1 V1 L c n wa k HSa HTTa hg hn
      rw [HK1.out, HV1.out] at q
      rw [HK1.out]
      exact q
    go_wp2_with (first | (go_at_call 25; refine (HJ.out _ HPw.out).mono ?_; rintro e5 w5 ⟨rfl, hw5⟩; obtain rfl := hw5.symm) | (go_at_call 26; refine HG.out.mono ?_))
    intro e3 w3 hh
    obtain ⟨b, rfl, hb3, hv3, hs3, ht3⟩ := hh.out
    have HT3 : Hid (Touch w w3 g 0 131) := HTa.out.trans ht3
    have HS3 : Hid (SpAt w3 g dg K1 (drV0 dg K V ys n) L c) := hs3
    have HV3 : Hid (View w3 (.slice (some ⟨b, 0, none⟩) n n) (fL (drO dg K V ys) n) ∧ w.heap.size ≤ b) := ⟨hv3, Nat.le_trans HTa.out.size hb3⟩
    have HTT3 : Hid (Tables w3) := hT.out.touch HT3.out hg
    have HP3 : Hid (PL w3 g v yss) := hp.out.touch HT3.out
    clear hh hb3 hv3 hs3 ht3 HG HTTa HPa HSa HTa
    go_wp2_with (go_at_call 24; refine (HU.out _ _ _ HS3.out HTT3.out HP3.out).mono ?_)
    intro e4 w4 hh
    obtain ⟨rfl, hs4, ht4⟩ := hh.out
    have HS4 : Hid (SpAt w4 g dg (drK dg K V ys n) (drV dg K V ys n) L c) := by
      show SpAt _ _ _ _ _ _ _
      have q := hs4
      rw [HK1.out] at q
      exact q
    have HT4 : Hid (Touch w w4 g 0 131) := HT3.out.trans ht4
    have HV4 : Hid (View w4 (.slice (some ⟨b, 0, none⟩) n n) (fL (drO dg K V ys) n)) := ht4.view HV3.out.1 (fun b' off l c' e => .inl (by injection e with e1 _ _; injection e1 with e1; injection e1 with e2 _; have := HV3.out.2; have := HGW.out; omega))
    have c3 : w4.cell? ⟨g, 130, none⟩ = some (.int .i64 c) := HS4.out.cnt
    have f3 : w4.frozen? ⟨g, 130, none⟩ = false := by have := (HS4.out.there 130 (by omega)).2; simpa using this
    have HF : Hid (View (w4.setCell ⟨g, 130, none⟩ (.int .i64 (c + 1))) (.slice (some ⟨b, 0, none⟩) n n) (fL (drO dg K V ys) n) ∧ SpAt (w4.setCell ⟨g, 130, none⟩ (.int .i64 (c + 1))) g dg (drK dg K V ys n) (drV dg K V ys n) L (c + 1) ∧ Touch w (w4.setCell ⟨g, 130, none⟩ (.int .i64 (c + 1))) g 0 131) := by
      have t5 : Touch w4 (w4.setCell ⟨g, 130, none⟩ (.int .i64 (c + 1))) g 0 131 := (Touch.refl w4 g 0 131).setCell 130 _ (by omega) (by omega)
      exact ⟨t5.view HV4.out (fun b' off l c' e => .inl (by injection e with e1 _ _; injection e1 with e1; injection e1 with e2 _; have := HV3.out.2; have := HGW.out; omega)), HS4.out.setC (c + 1), HT4.out.trans t5⟩
    clear hh hs4 ht4 HS3 HT3 HTT3 HP3
    go_wp2
    go_ret2
    exact ⟨b, rfl, HV3.out.2, HF.out.1, HF.out.2.1, HF.out.2.2⟩
end Go.Proofs.YtkeklmkaleomkaaDoor
namespace Go.Proofs.YtkeklmkaleomkaaDoor
open Go.RowKit
set_option linter.unusedVariables false
set_option linter.unusedSimpArgs false
theorem fL_over (f : Nat → Int) (z : List Int) (n : Nat) (h : z.length = n) : fL (over f z) n = z := by
  refine ext_getD (n := n) (fL_length _ _) h (fun j hj => ?_)
  rw [fL_get _ _ _ hj, over_lt (by omega)]
theorem fL_mixK {dg : Int} (k : Known dg) (K V : Nat → Int) (mk : Int) (ys : List Int) : fL (mixK dg K V mk ys) (szOf dg) = hmac dg (fL K (szOf dg)) (fL V (szOf dg) ++ (mk :: ys)) := fL_over _ _ _ (hmac_len k _ _)
theorem fL_turnV {dg : Int} (k : Known dg) (K V : Nat → Int) : fL (turnV dg K V) (szOf dg) = hmac dg (fL K (szOf dg)) (fL V (szOf dg)) := fL_over _ _ _ (hmac_len k _ _)
/-- The document's update and the program's. -/
theorem upd_rst {dg : Int} (k : Known dg) (K V : Nat → Int) (xs : List Int) :
    rst dg (fL K (szOf dg)) (fL V (szOf dg)) xs (if xs.length = 0 then 1 else 2) = (fL (updK dg K V xs) (szOf dg), fL (updV dg K V xs) (szOf dg)) := by
  by_cases h : xs = []
  · subst h
    simp only [List.length_nil, if_true, rst, updK, updV, if_pos, fL_mixK k, fL_turnV k]
    rfl
  · have h2 : ¬ xs.length = 0 := by simpa using h
    simp only [if_neg h2, rst, updK, updV, if_neg h, fL_mixK k, fL_turnV k]
    rfl
/-- The document's V behind j steps of a draw. -/
def rvq (dg : Int) (KL VL : List Int) : Nat → List Int
  | 0 => VL
  | j + 1 => hmac dg KL (rvq dg KL VL j)
theorem rvq_eq {dg : Int} (k : Known dg) (K V : Nat → Int) (j : Nat) : rvq dg (fL K (szOf dg)) (fL V (szOf dg)) j = fL (vq dg K V j) (szOf dg) := by
  induction j with
  | zero => rfl
  | succ j ih => simp only [rvq, vq, fL_turnV k, ih]
theorem rvq_len {dg : Int} (k : Known dg) (KL VL : List Int) (h : VL.length = szOf dg) (j : Nat) : (rvq dg KL VL j).length = szOf dg := by
  cases j with
  | zero => exact h
  | succ j => exact hmac_len k _ _
/-- What was drawn behind j steps. -/
def rout (dg : Int) (KL VL : List Int) : Nat → List Int
  | 0 => []
  | j + 1 => rout dg KL VL j ++ rvq dg KL VL (j + 1)
theorem rout_len {dg : Int} (k : Known dg) (KL VL : List Int) (h : VL.length = szOf dg) (j : Nat) : (rout dg KL VL j).length = j * szOf dg := by
  induction j with
  | zero => simp [rout]
  | succ j ih => rw [rout, List.length_append, ih, rvq_len k _ _ h, Nat.succ_mul]
theorem rout_eq {dg : Int} (k : Known dg) (K V : Nat → Int) (j : Nat) : rout dg (fL K (szOf dg)) (fL V (szOf dg)) j = fL (gv dg K V) (j * szOf dg) := by
  induction j with
  | zero => simp [rout, fL]
  | succ j ih =>
    refine ext_getD (n := (j + 1) * szOf dg) (rout_len k _ _ (fL_length _ _) _) (fL_length _ _) (fun i hi => ?_)
    rw [fL_get _ _ _ hi, rout, ih, List.getD_eq_getElem?_getD]
    by_cases h : i < j * szOf dg
    · rw [List.getElem?_append_left (by rw [fL_length]; exact h), ← List.getD_eq_getElem?_getD, fL_get _ _ _ h]
    · obtain ⟨r, rfl⟩ : ∃ r, i = j * szOf dg + r := ⟨i - j * szOf dg, by omega⟩
      have hr : r < szOf dg := by rw [Nat.succ_mul] at hi; omega
      rw [List.getElem?_append_right (by rw [fL_length]; omega), fL_length, Nat.add_sub_cancel_left, ← List.getD_eq_getElem?_getD, rvq_eq k, fL_get _ _ _ hr, gv_at k _ _ _ _ hr]
/-- The steps of a draw of n bytes. -/
theorem rout_take {dg : Int} (k : Known dg) (K V : Nat → Int) (n j : Nat) (h : n ≤ j * szOf dg) : (rout dg (fL K (szOf dg)) (fL V (szOf dg)) j).take n = fL (gv dg K V) n := by
  rw [rout_eq k, fL_take _ _ _ h]
theorem fL_zeros (n : Nat) : fL (fun _ => 0) n = List.replicate n 0 := by
  refine ext_getD (n := n) (fL_length _ _) (by simp) (fun j hj => ?_)
  rw [fL_get _ _ _ hj]; simp [List.getD, hj]
theorem fL_ones (n : Nat) : fL (ones n) n = List.replicate n 1 := by
  refine ext_getD (n := n) (fL_length _ _) (by simp) (fun j hj => ?_)
  rw [fL_get _ _ _ hj]; simp [List.getD, hj, ones]
end Go.Proofs.YtkeklmkaleomkaaDoor
namespace Go.Proofs.YtkeklmkaleomkaaDoor
open Go.RowKit
set_option linter.unusedVariables false
set_option linter.unusedSimpArgs false
theorem owns_touch {w w' : World} {B n e s g o m : Nat} {v : Value} {xs : List Value} (h : w.ownsRow B e s v n xs) (t : Touch w w' g o m) (hg : g < B) : w'.ownsRow B e s v n xs := by
  obtain ⟨h1, h2⟩ := h
  refine ⟨h1, ?_⟩
  rcases h2 with h2 | ⟨b, c, cur, e', q1, q2, q⟩
  · exact .inl h2
  · refine .inr ⟨b, c, cur, e', q1, ?_, q⟩
    rw [t.block b (Array.getElem?_eq_some_iff.1 q2).1 (by omega)]
    exact q2
theorem View.blk' {w v : World} {a : Option Addr} {n c : Nat} {zs : List Int} (h : View w (.slice a n c) zs) (hb : ∀ b off, a = some ⟨b, off, none⟩ → v.heap[b]? = w.heap[b]?) : View v (.slice a n c) zs := by
  obtain ⟨a', c', e, h1, h2, h3, h4⟩ := h
  injection e with e1 e2 e3
  subst e1 e2 e3
  refine ⟨a, c, rfl, h1, h2, h3, ?_⟩
  rcases h4 with h4 | ⟨b, off, e4, hc⟩
  · exact .inl h4
  · refine .inr ⟨b, off, e4, fun i hi => ?_⟩
    rw [World.cell?_of_block (a := ⟨b, off + i, none⟩) (hb b off e4)]
    exact hc i hi
/-- The document's spring while its V is made. -/
structure NAt (u : World) (g : Nat) (h L : Int) (ka : Option Addr) (sz kc i : Nat) (va : Option Addr) (vc : Nat) : Prop where
  c0 : u.cell? ⟨g, 0, none⟩ = some (.int .i64 h)
  c1 : u.cell? ⟨g, 1, none⟩ = some (.int .i64 L)
  c2 : u.cell? ⟨g, 2, none⟩ = some (.int .i64 0)
  c3 : u.cell? ⟨g, 3, none⟩ = some (.slice ka sz kc)
  c4 : u.cell? ⟨g, 4, none⟩ = some (.slice va i vc)
  there : u.there g 0 5
  own : u.ownsRow (g + 1) 5 1 (.slice va i vc) i (cellsU8 (List.replicate i 1))
theorem NAt.step {u u' : World} {g : Nat} {h L : Int} {ka va xa : Option Addr} {sz kc i vc xc : Nat} (s : NAt u g h L ka sz kc i va vc) (hb : u'.heap[g]? = u.heap[g]?) (ho : u'.ownsRow (g + 1) 5 1 (.slice xa (i + 1) xc) (i + 1) (cellsU8 (List.replicate (i + 1) 1))) :
    NAt (u'.setCell ⟨g, 4, none⟩ (.slice xa (i + 1) xc)) g h L ka sz kc (i + 1) xa xc := by
  have hc : ∀ j, u'.cell? ⟨g, j, none⟩ = u.cell? ⟨g, j, none⟩ := fun j => World.cell?_of_block (a := ⟨g, j, none⟩) hb
  have hf : ∀ j, u'.frozen? ⟨g, j, none⟩ = u.frozen? ⟨g, j, none⟩ := fun j => World.frozen?_of_block (a := ⟨g, j, none⟩) hb
  have ht : u'.there g 0 5 := fun j hj => by rw [hc, hf]; exact s.there j hj
  have out : ∀ j, j ≠ 4 → (u'.setCell ⟨g, 4, none⟩ (.slice xa (i + 1) xc)).cell? ⟨g, j, none⟩ = u'.cell? ⟨g, j, none⟩ := fun j hj => World.cell?_setCell_other _ _ _ _ (by intro q; injection q with _ q2; omega)
  have t : Touch u' (u'.setCell ⟨g, 4, none⟩ (.slice xa (i + 1) xc)) g 0 5 := (Touch.refl u' g 0 5).setCell 4 _ (by omega) (by omega)
  exact ⟨by rw [out 0 (by omega), hc]; exact s.c0, by rw [out 1 (by omega), hc]; exact s.c1, by rw [out 2 (by omega), hc]; exact s.c2, by rw [out 3 (by omega), hc]; exact s.c3, World.cell?_setCell_same' _ _ _ (by rw [hc, s.c4]; rfl), World.there_setCells ht g 4 [.slice xa (i + 1) xc], owns_touch ho t (by omega)⟩
theorem pv3_alloc {u : World} (t : TypeId) (x y z : Value) (E N P : List Int) (hx : View u x E) (hy : View u y N) (hz : View u z P) : PV (u.alloc (.cells #[x, y, z] t)) (.slice (some ⟨u.heap.size, 0, none⟩) 3 3) [x, y, z] [E, N, P] := by
  refine ⟨_, 3, rfl, by simp, by simp [maxLen], rfl, fun i v hv => ?_, .inr ⟨u.heap.size, 0, rfl, fun i v hv => ?_⟩⟩
  · have hi : i < 3 := by have := (List.getElem?_eq_some_iff.1 hv).1; simpa using this
    match i, hi with
    | 0, _ => cases hv; exact hx.kept (fun q hq => Below.heap_alloc u _ q hq)
    | 1, _ => cases hv; exact hy.kept (fun q hq => Below.heap_alloc u _ q hq)
    | 2, _ => cases hv; exact hz.kept (fun q hq => Below.heap_alloc u _ q hq)
  · exact rangeAt_new u #[x, y, z] t i v hv
/-- What New leaves. -/
def RNewP (w w' : World) (e : Ending) (h L : Int) (xs : List Int) : Prop := ∃ g ka kc va vc, e = .returned (.tuple #[.pointer (some ⟨g, 0, none⟩), .int .i64 0]) ∧ w.heap.size ≤ g ∧ RSp w' g h L 0 ka kc va vc (fL (updK h (fun _ => 0) (ones (szOf h)) xs) (szOf h)) (fL (updV h (fun _ => 0) (ones (szOf h)) xs) (szOf h)) ∧ New2 w ka va ∧ Below w.heap.size w w'
set_option maxHeartbeats 3200000 in
set_option maxRecDepth 100000 in
/-- cofferref06.New, of what must be taken. -/
theorem rnew_ok (h L : Int) (ea na pa : Option Addr) (en ec nn nc pn pc : Nat) (E N P : List Int) (w : World) (k : Hid (Known h)) (hR : Hid (RTab w)) (hL1 : 1 ≤ L) (hL2 : L ≤ 16777216) (he : Hid (View w (.slice ea en ec) E)) (hel : Hid (E.length = en)) (hn : Hid (View w (.slice na nn nc) N)) (hnl : Hid (N.length = nn)) (hp : Hid (View w (.slice pa pn pc) P)) (hpl : Hid (P.length = pn)) (he1 : 16 ≤ en) (he2 : en ≤ 65536) (hn2 : nn ≤ 65536) (hp2 : pn ≤ 65536) (hw4 : 4 ≤ w.heap.size) :
    Calls Tryd.prog 28 #[.int .i64 h, .int .i64 L, .slice ea en ec, .slice na nn nc, .slice pa pn pc] w fun e w' => Hid (RNewP w w' e h L (E ++ (N ++ P))) := by
  obtain ⟨sz, HSZ⟩ : ∃ n : Nat, Hid (n = szOf h) := ⟨_, (show _ = _ from rfl)⟩
  have hsz : 1 ≤ sz ∧ sz ≤ 64 := by rw [HSZ.out]; exact szOf_pos k.out
  have hR4 := hR.out.size
  obtain ⟨i0, hi0, hz0, hz1, hz2⟩ := info_parts Tryd.info5
  have H42 : Hid (Calls Tryd.prog 42 #[.int .i64 h] w fun e w' => e = .returned (.int .i64 (sz : Nat)) ∧ w' = w) := by
    have q := rsize_ok h k.out w
    rw [← HSZ.out] at q
    exact q
  have q0 : (((sz : Nat) : Int) == 0) = false := by simp; omega
  have q1 : decide (L < 1) = false := by simp; omega
  have q2 : decide (16777216 < L) = false := by simp; omega
  have q5 : decide (((en : Nat) : Int) < 16) = false := by simp; omega
  have q6 : decide ((65536 : Int) < (en : Nat)) = false := by simp; omega
  have q3 : decide ((65536 : Int) < (nn : Nat)) = false := by simp; omega
  have q4 : decide ((65536 : Int) < (pn : Nat)) = false := by simp; omega
  go_enter Tryd.func28, Tryd.ntmps28
  go_upto_region 10 with (go_at_call 42; refine H42.out.mono ?_; rintro e1 w1 ⟨rfl, hw1⟩; obtain rfl := hw1.symm)
  clear H42
  go_upto_region 11 with (first
    | (at_make; go_must (refine wpList_make_full _ rfl _ _ 22 rfl w.heap.size 5 i0 (.int .u8 0) 1 Tryd.underlying22 hi0 hz0 hz1 .i64 .i64 (sz : Nat) (sz : Nat) sz rfl rfl rfl rfl ?_ ?_ ?_ ?_); rw [hz2]; omega; unfold maxLen; omega; exact Nat.le_refl _; intro w1 hown hgrow)
    | fail)
  have hb1 : Below w.heap.size w w1 := (Below.refl _ _).grown hgrow (Nat.le_refl _) (by intro k hk; cases hk)
  obtain ⟨g, hg⟩ : ∃ g, g = w1.heap.size := ⟨_, rfl⟩
  have hkg : w.heap.size < g := by have := (hown.lt w.heap.size rfl).2; omega
  have HK1 : Hid (View w1 (.slice (some ⟨w.heap.size, 0, none⟩) sz sz) (List.replicate sz 0)) := by
    refine ⟨_, sz, by simp, by simp, by simp [maxLen]; omega, (fun e => by cases e), .inr ⟨w.heap.size, 0, rfl, fun j hj => ?_⟩⟩
    have hj' : j < sz := by simpa using hj
    rw [Nat.zero_add, hown.cellAt j (by omega)]
    have e0 : (List.replicate sz (0 : Int)).getD j 0 = 0 := by simp [List.getD, hj']
    rw [e0, Nat.mul_one]
    exact made_get sz j hj'
  rw [← hg]
  have hba := below_alloc1 w1 (.cells #[.int .i64 h, .int .i64 L, .int .i64 0, .slice (some ⟨w.heap.size, 0, none⟩) sz sz, .slice none 0 0] 73)
  have hr2 := rangeAt_new w1 #[.int .i64 h, .int .i64 L, .int .i64 0, .slice (some ⟨w.heap.size, 0, none⟩) sz sz, .slice none 0 0] 73
  have ht2 := there_new w1 #[.int .i64 h, .int .i64 L, .int .i64 0, .slice (some ⟨w.heap.size, 0, none⟩) sz sz, .slice none 0 0] 73 5 (Nat.le_refl _)
  have hs2 : (w1.alloc (.cells #[.int .i64 h, .int .i64 L, .int .i64 0, .slice (some ⟨w.heap.size, 0, none⟩) sz sz, .slice none 0 0] 73)).heap.size = g + 1 := by rw [size_alloc1, hg]
  generalize (w1.alloc (.cells #[.int .i64 h, .int .i64 L, .int .i64 0, .slice (some ⟨w.heap.size, 0, none⟩) sz sz, .slice none 0 0] 73)) = w2 at hba hr2 ht2 hs2 ⊢
  rw [← hg] at hba hr2 ht2
  have HB2 : Hid (Below w.heap.size w w2 ∧ w.heap.size ≤ g) := ⟨hb1.trans (hba.mono (by omega)), by omega⟩
  have HK2 : Hid (View w2 (.slice (some ⟨w.heap.size, 0, none⟩) sz sz) (List.replicate sz 0)) := HK1.out.kept fun q hq => hba.block q (by omega)
  have HN2 : Hid (NAt w2 g h L (some ⟨w.heap.size, 0, none⟩) sz sz 0 none 0) := ⟨by simpa using hr2 0 _ rfl, by simpa using hr2 1 _ rfl, by simpa using hr2 2 _ rfl, by simpa using hr2 3 _ rfl, by simpa using hr2 4 _ rfl, ht2, World.ownsRow_nil _ _ _ _⟩
  clear hown hgrow hb1 HK1 hba hr2 ht2 hg
  go_wp2
  go_loopw [14] (fun vi wr => ∃ i vc : Nat, ∃ va : Option Addr, i ≤ sz ∧ vi = .int .i64 (i : Nat) ∧ g + 1 ≤ wr.heap.size ∧ Hid (NAt wr g h L (some ⟨w.heap.size, 0, none⟩) sz sz i va vc) ∧ Hid (Below g w2 wr)) (fun vi _ => sz - (intOf vi).toNat)
  case atStart => exact ⟨0, 0, none, by omega, rfl, by omega, HN2.out, Below.refl _ _⟩
  case round =>
    obtain ⟨i, vc, va, hi, rfl, hsr, HN, HB⟩ := hrel
    clear HN2
    by_cases hlt : i < sz
    · have g4 : wr.cell? ⟨g, 4, none⟩ = some (.slice va i vc) := HN.out.c4
      have hBa : Below wr.heap.size wr (wr.alloc (.cells #[.int .u8 1] 5)) := below_alloc1 _ _
      have HOa : Hid ((wr.alloc (.cells #[.int .u8 1] 5)).ownsRow (g + 1) 5 1 (.slice va i vc) i (cellsU8 (List.replicate i 1))) := owns_kept HN.out.own hBa
      have HVa : Hid (View (wr.alloc (.cells #[.int .u8 1] 5)) (.slice (some ⟨wr.heap.size, 0, none⟩) 1 1) [1]) := ⟨_, 1, rfl, by simp, by simp [maxLen], (fun e => by cases e), .inr ⟨wr.heap.size, 0, rfl, fun j hj => by
        obtain rfl : j = 0 := by simp at hj; omega
        exact rangeAt_new wr #[.int .u8 1] 5 0 _ rfl⟩⟩
      have HBa : Hid (Below (g + 1) wr (wr.alloc (.cells #[.int .u8 1] 5))) := hBa.mono hsr
      clear hBa
      go_wp2_with (first | (at_builtin; go_must (refine wpList_append_view rfl (.tmp 61) (.tmp 62) rfl (g + 1) i (i + 1) (.slice va i vc) (List.replicate i 1) rfl HOa.out (some ⟨wr.heap.size, 0, none⟩) 1 1 rfl [1] HVa.out rfl rfl (by omega) (Nat.le_trans hsr (by simp)) ?_)))
      intro v6 w6 hown6 hgrow6 hat6
      obtain ⟨a6, c6, rfl⟩ := owns_slice0 hown6
      have HB6 : Hid (Below (g + 1) wr w6) := HBa.out.grown hgrow6 (Nat.le_trans hsr HBa.out.size) (fun b hb => (HOa.out.lt b hb).1)
      have HO6 : Hid (w6.ownsRow (g + 1) 5 1 (.slice a6 (i + 1) c6) (i + 1) (cellsU8 (List.replicate (i + 1) 1))) := by
        show World.ownsRow _ _ _ _ _ _ _
        rw [List.replicate_succ']
        exact hown6
      clear hown6 hgrow6 hat6 HOa HVa HBa
      have p4 : w6.cell? ⟨g, 4, none⟩ = some (.slice va i vc) := by rw [World.cell?_of_block (a := ⟨g, 4, none⟩) (HB6.out.block g (by omega))]; exact g4
      have z4 : w6.frozen? ⟨g, 4, none⟩ = false := by rw [World.frozen?_of_block (a := ⟨g, 4, none⟩) (HB6.out.block g (by omega))]; have := (HN.out.there 4 (by omega)).2; simpa using this
      have HN7 : Hid (NAt (w6.setCell ⟨g, 4, none⟩ (.slice a6 (i + 1) c6)) g h L (some ⟨w.heap.size, 0, none⟩) sz sz (i + 1) a6 c6) := HN.out.step (HB6.out.block g (by omega)) HO6.out
      have HB7 : Hid (Below g w2 (w6.setCell ⟨g, 4, none⟩ (.slice a6 (i + 1) c6))) := (HB.out.trans (HB6.out.mono (by omega))).setCell (p := ⟨g, 4, none⟩) (Nat.le_refl _) _
      have hs7 : g + 1 ≤ (w6.setCell ⟨g, 4, none⟩ (.slice a6 (i + 1) c6)).heap.size := by simp; exact Nat.le_trans hsr HB6.out.size
      go_wp2
      go_roundw
      case rel => exact ⟨i + 1, c6, a6, by omega, by go_num, hs7, HN7.out, HB7.out⟩
      case measure => simp [intOf]; omega
    · obtain rfl : i = sz := by omega
      have HS : Hid (RSp wr g h L 0 (some ⟨w.heap.size, 0, none⟩) i va vc (fL (fun _ => 0) (szOf h)) (fL (ones (szOf h)) (szOf h))) := by
        show RSp _ _ _ _ _ _ _ _ _ _ _
        rw [fL_zeros, fL_ones, ← HSZ.out]
        refine ⟨HN.out.c0, HN.out.c1, HN.out.c2, by rw [← HSZ.out]; exact HN.out.c3, by rw [← HSZ.out]; exact HN.out.c4, HN.out.there, ?_, by rw [← HSZ.out]; simp, ?_, by rw [← HSZ.out]; simp, ?_, ?_⟩
        · rw [← HSZ.out]; exact HK2.out.blk' fun b off e => by injection e with e; injection e with e _; subst e; exact HB.out.block _ hkg
        · rw [← HSZ.out]; exact viewOwns HN.out.own (by simp)
        · intro b off e; injection e with e; injection e with e _; omega
        · intro b off e; have := (HN.out.own.lt b (by rw [e]; rfl)).1; omega
      have HBr : Hid (Below w.heap.size w wr) := HB2.out.1.trans (HB.out.mono HB2.out.2)
      clear HN HB HK2 HB2
      have hE : Hid (View wr (.slice ea en ec) E) := he.out.kept fun q hq => HBr.out.block q (by omega)
      have hNN : Hid (View wr (.slice na nn nc) N) := hn.out.kept fun q hq => HBr.out.block q (by omega)
      have hPP : Hid (View wr (.slice pa pn pc) P) := hp.out.kept fun q hq => HBr.out.block q (by omega)
      obtain ⟨xs, HX⟩ : ∃ xs, Hid (xs = E ++ (N ++ P)) := ⟨_, rfl⟩
      obtain ⟨T, HT⟩ : ∃ T : Nat, Hid (T = xs.length) := ⟨_, rfl⟩
      have hT : T ≤ 196608 := by rw [HT.out, HX.out]; simp [hel.out, hnl.out, hpl.out]; omega
      have H30 : Hid (∀ t, Calls Tryd.prog 30 #[.slice (some ⟨wr.heap.size, 0, none⟩) 3 3] (wr.alloc (.cells #[.slice ea en ec, .slice na nn nc, .slice pa pn pc] t)) fun e w' => Hid (∃ ja jc, e = .returned (.slice ja T jc) ∧ w'.ownsRow wr.heap.size 5 1 (.slice ja T jc) T (cellsU8 xs) ∧ Below wr.heap.size wr w')) := by
        intro t
        have q := rjoined_ok (some ⟨wr.heap.size, 0, none⟩) 3 3 _ [E, N, P] _ (pv3_alloc t _ _ _ E N P hE.out hNN.out hPP.out) rfl (by show _ ≤ _; have h1 := hel.out; have h2 := hnl.out; have h3 := hpl.out; simp; omega) (by decide)
        have ef : ([E, N, P] : List (List Int)).flatten = xs := by rw [HX.out]; simp
        rw [ef, ← HT.out] at q
        refine q.mono ?_
        intro e w' hh
        obtain ⟨v', r1, r2, r3⟩ := hh.out
        obtain ⟨ja, jc, rfl⟩ := owns_slice0 r2
        have ba := below_alloc1 wr (.cells #[.slice ea en ec, .slice na nn nc, .slice pa pn pc] t)
        exact ⟨ja, jc, r1, owns_base r2 ba.size, ba.trans (r3.mono ba.size)⟩
      go_upto_region 16 with (go_at_call 30; refine (H30.out _).mono ?_; intro e8 w8 hh; obtain ⟨ja, jc, rfl, ho8, hb8⟩ := hh.out)
      have HS8 : Hid (RSp w8 g h L 0 (some ⟨w.heap.size, 0, none⟩) i va vc (fL (fun _ => 0) (szOf h)) (fL (ones (szOf h)) (szOf h))) := HS.out.below hb8
      have HU : Hid (Calls Tryd.prog 31 #[.pointer (some ⟨g, 0, none⟩), .slice ja T jc] w8 fun e w' => Hid (e = .returned (.tuple #[]) ∧ ∃ ka' kc' va' vc', RSp w' g h L 0 ka' kc' va' vc' (fL (updK h (fun _ => 0) (ones (szOf h)) xs) (szOf h)) (fL (updV h (fun _ => 0) (ones (szOf h)) xs) (szOf h)) ∧ Touch w8 w' g 0 5 ∧ New2 w8 ka' va')) := by
        have hRw : RTab w8 := (hR.out.below (HBr.out.trans (hb8.mono HBr.out.size)) (by omega))
        have q := rupdate_ok g h L 0 (some ⟨w.heap.size, 0, none⟩) va ja i vc T jc (fL (fun _ => 0) (szOf h)) (fL (ones (szOf h)) (szOf h)) xs w8 k HS8 hRw (viewOwns ho8 HT.out.symm) HT.out.symm (by omega) (by omega) (fun b off l c e => .inl (by injection e with e1 _ _; have := (ho8.lt b (by rw [e1]; rfl)).1; omega))
        refine q.mono ?_
        intro e w' hh
        obtain ⟨r1, ka', kc', va', vc', r2, r3, r4⟩ := hh.out
        rw [upd_rst k.out] at r2
        exact ⟨r1, ka', kc', va', vc', r2, r3, r4⟩
      have HB8 : Hid (Below w.heap.size w w8) := HBr.out.trans (hb8.mono HBr.out.size)
      clear hh ho8 hb8 HS8 HS H30
      go_upto_region 17 with (go_at_call 31; refine HU.out.mono ?_; intro e9 w9 hh; obtain ⟨rfl, ka', kc', va', vc', r2, r3, r4⟩ := hh.out)
      have HF : Hid (RSp w9 g h L 0 ka' kc' va' vc' (fL (updK h (fun _ => 0) (ones (szOf h)) (E ++ (N ++ P))) (szOf h)) (fL (updV h (fun _ => 0) (ones (szOf h)) (E ++ (N ++ P))) (szOf h)) ∧ New2 w ka' va' ∧ Below w.heap.size w w9) := by
        rw [← HX.out]
        have hs8 := HB8.out.size
        exact ⟨r2, ⟨fun b off e => by have := r4.1 b off e; omega, fun b off e => by have := r4.2 b off e; omega⟩, HB8.out.trans (r3.toBelow (by omega) (by omega))⟩
      clear hh r2 r3 r4 HU
      go_wp2
      go_ret2
      exact ⟨g, ka', kc', va', vc', rfl, by omega, HF.out.1, HF.out.2.1, HF.out.2.2⟩
end Go.Proofs.YtkeklmkaleomkaaDoor
namespace Go.Proofs.YtkeklmkaleomkaaDoor
open Go.RowKit
set_option linter.unusedVariables false
set_option linter.unusedSimpArgs false
theorem RSp.blk {w v : World} {g : Nat} {dg L c : Int} {ka va : Option Addr} {kc vc : Nat} {KL VL : List Int} (s : RSp w g dg L c ka kc va vc KL VL) (hb : v.heap[g]? = w.heap[g]?) (hk : ∀ b off, ka = some ⟨b, off, none⟩ → v.heap[b]? = w.heap[b]?) (hv : ∀ b off, va = some ⟨b, off, none⟩ → v.heap[b]? = w.heap[b]?) : RSp v g dg L c ka kc va vc KL VL := by
  have hc : ∀ j, v.cell? ⟨g, j, none⟩ = w.cell? ⟨g, j, none⟩ := fun j => World.cell?_of_block (a := ⟨g, j, none⟩) hb
  have hf : ∀ j, v.frozen? ⟨g, j, none⟩ = w.frozen? ⟨g, j, none⟩ := fun j => World.frozen?_of_block (a := ⟨g, j, none⟩) hb
  exact ⟨by rw [hc]; exact s.c0, by rw [hc]; exact s.c1, by rw [hc]; exact s.c2, by rw [hc]; exact s.c3, by rw [hc]; exact s.c4, fun j hj => by rw [hc, hf]; exact s.there j hj, s.vK.blk' hk, s.lK, s.vV.blk' hv, s.lV, s.aK, s.aV⟩
theorem RSp.setC {w : World} {g : Nat} {dg L c : Int} {ka va : Option Addr} {kc vc : Nat} {KL VL : List Int} (s : RSp w g dg L c ka kc va vc KL VL) (x : Int) : RSp (w.setCell ⟨g, 2, none⟩ (.int .i64 x)) g dg L x ka kc va vc KL VL := by
  have out : ∀ j, j ≠ 2 → (w.setCell ⟨g, 2, none⟩ (.int .i64 x)).cell? ⟨g, j, none⟩ = w.cell? ⟨g, j, none⟩ := fun j hj => World.cell?_setCell_other _ _ _ _ (by intro q; injection q with _ q2; omega)
  have t : Touch w (w.setCell ⟨g, 2, none⟩ (.int .i64 x)) g 0 5 := (Touch.refl w g 0 5).setCell 2 _ (by omega) (by omega)
  exact ⟨by rw [out 0 (by omega)]; exact s.c0, by rw [out 1 (by omega)]; exact s.c1, World.cell?_setCell_same' _ _ _ (by rw [s.c2]; rfl), by rw [out 3 (by omega)]; exact s.c3, by rw [out 4 (by omega)]; exact s.c4, World.there_setCells s.there g 2 [.int .i64 x], t.view s.vK (fun b off l c' e => .inl (by injection e with e1 _ _; exact s.aK b off e1)), s.lK, t.view s.vV (fun b off l c' e => .inl (by injection e with e1 _ _; exact s.aV b off e1)), s.lV, s.aK, s.aV⟩
theorem view_blk_lt {w : World} {b off n c : Nat} {zs : List Int} (h : View w (.slice (some ⟨b, off, none⟩) n c) zs) (h0 : 0 < zs.length) : b < w.heap.size := by
  obtain ⟨a', c', e, h1, h2, h3, h4⟩ := h
  rcases h4 with rfl | ⟨b', off', e4, hc⟩
  · simp at h0
  · injection e with e1 e2 e3
    rw [e4] at e1
    injection e1 with e1
    injection e1 with e1 _
    rw [e1]
    exact lt_of_cell (hc 0 h0)
theorem view_take2 {w : World} {a : Option Addr} {l c n : Nat} {zs : List Int} (h : View w (.slice a l c) zs) (hn : n ≤ zs.length) : View w (.slice a n c) (zs.take n) := by
  obtain ⟨a', c', e, h1, h2, h3, h4⟩ := h
  injection e with e1 e2 e3
  subst e1 e2 e3
  have hl : (zs.take n).length = n := by simp; omega
  refine ⟨a, c, by rw [hl], by rw [hl]; omega, h2, h3, ?_⟩
  rcases h4 with rfl | ⟨b, off, e4, hc⟩
  · exact .inl (by simp)
  · refine .inr ⟨b, off, e4, fun i hi => ?_⟩
    rw [hl] at hi
    rw [hc i (by omega), List.getD_eq_getElem?_getD, List.getD_eq_getElem?_getD, List.getElem?_take, if_pos hi]
/-- A slice's length. -/
def slLen : Value → Nat | .slice _ l _ => l | _ => 0
/-- What update leaves, as the program's. -/
def RUpdP (u w' : World) (g : Nat) (dg L c : Int) (K V : Nat → Int) (ys : List Int) : Prop := ∃ ka' kc' va' vc', RSp w' g dg L c ka' kc' va' vc' (fL (updK dg K V ys) (szOf dg)) (fL (updV dg K V ys) (szOf dg)) ∧ Touch u w' g 0 5 ∧ New2 u ka' va'
/-- What Draw leaves. -/
def RDrawP (w w' : World) (e : Ending) (g : Nat) (dg : Int) (K V : Nat → Int) (L c : Int) (n : Nat) (ys : List Int) : Prop := ∃ ba bc ka' kc' va' vc', e = .returned (.tuple #[.slice ba n bc, .int .i64 0]) ∧ View w' (.slice ba n bc) (fL (drO dg K V ys) n) ∧ (∀ b off, ba = some ⟨b, off, none⟩ → w.heap.size ≤ b) ∧ RSp w' g dg L (c + 1) ka' kc' va' vc' (fL (drK dg K V ys n) (szOf dg)) (fL (drV dg K V ys n) (szOf dg)) ∧ Touch w w' g 0 5 ∧ New2 w ka' va'
/-- In the midst of a draw. -/
structure RMid (wa u : World) (g : Nat) (dg L c : Int) (ka va oa : Option Addr) (kc vc oc q l : Nat) (KL VL : List Int) : Prop where
  sp : RSp u g dg L c ka kc va vc KL (rvq dg KL VL q)
  tou : Touch wa u g 0 5
  own : u.ownsRow wa.heap.size 5 1 (.slice oa l oc) l (cellsU8 (rout dg KL VL q))
  sep : ∀ b off, va = some ⟨b, off, none⟩ → ∀ b' off', oa = some ⟨b', off', none⟩ → b ≠ b'
theorem Touch.then {wa u v : World} {g o n : Nat} (t : Touch wa u g o n) (b : Below wa.heap.size u v) (hg : g < wa.heap.size) : Touch wa v g o n :=
  ⟨b.os.trans t.os, b.tape.trans t.tape, b.output.trans t.output, Nat.le_trans t.size b.size, fun k hk hne => (b.block k hk).trans (t.block k hk hne), fun j hj => by rw [World.cell?_of_block (a := ⟨g, j, none⟩) (b.block g hg)]; exact t.cell j hj, fun o' n' h j hj => by rw [World.cell?_of_block (a := ⟨g, o' + j, none⟩) (b.block g hg), World.frozen?_of_block (a := ⟨g, o' + j, none⟩) (b.block g hg)]; exact t.there o' n' h j hj⟩
theorem own_block {a : Option Addr} {l c : Nat} {b : Nat} (h : (Value.slice a l c).ownBlock = some b) : ∃ off, a = some ⟨b, off, none⟩ ∨ ∃ x, a = some x ∧ x.block = b := by
  cases a with
  | none => cases h
  | some x => exact ⟨0, .inr ⟨x, rfl, by simpa [Value.ownBlock] using h⟩⟩
set_option maxHeartbeats 6400000 in
set_option maxRecDepth 100000 in
/-- cofferref06.Draw, of what must be given. -/
theorem rdraw_ok (g : Nat) (dg : Int) (K V : Nat → Int) (L c : Int) (ka va xa : Option Addr) (kc vc xn xc n : Nat) (xs : List Value) (yss : List (List Int)) (w : World) (k : Hid (Known dg)) (hs : Hid (RSp w g dg L c ka kc va vc (fL K (szOf dg)) (fL V (szOf dg)))) (hR : Hid (RTab w)) (hP : Hid (PV w (.slice xa xn xc) xs yss)) (hxn : Hid (xs.length = xn)) (hl : Hid (yss.flatten.length ≤ 65536)) (hxb : xn ≤ 1048576) (hg : 4 ≤ g) (hn : n ≤ 65536) (hc : c ≠ L) (hc0 : 0 ≤ c) (hc1 : c ≤ 16777216) :
    Calls Tryd.prog 19 #[.pointer (some ⟨g, 0, none⟩), .int .i64 (n : Nat), .slice xa xn xc] w fun e w' => Hid (RDrawP w w' e g dg K V L c n yss.flatten) := by
  obtain ⟨N, HNN⟩ : ∃ N, Hid (N = yss.flatten.length) := ⟨_, rfl⟩
  obtain ⟨ys, HY⟩ : ∃ ys, Hid (ys = yss.flatten) := ⟨_, rfl⟩
  have hN : N ≤ 65536 := by rw [HNN.out]; exact hl.out
  have HYN : Hid (ys.length = N) := by rw [HY.out]; exact HNN.out.symm
  obtain ⟨sz, HSZ⟩ : ∃ n : Nat, Hid (n = szOf dg) := ⟨_, (show _ = _ from rfl)⟩
  have hsz : 1 ≤ sz ∧ sz ≤ 64 := by rw [HSZ.out]; exact szOf_pos k.out
  have HGW : Hid (g < w.heap.size) := hs.out.lt
  have H30 : Hid (Calls Tryd.prog 30 #[.slice xa xn xc] w fun e w' => Hid (∃ ja jc, e = .returned (.slice ja N jc) ∧ w'.ownsRow w.heap.size 5 1 (.slice ja N jc) N (cellsU8 ys) ∧ Below w.heap.size w w')) := by
    have q := rjoined_ok xa xn xc xs yss w hP hxn (by show _ ≤ _; have := hl.out; omega) hxb
    rw [← HNN.out, ← HY.out] at q
    refine q.mono ?_
    intro e w' hh
    obtain ⟨v', r1, r2, r3⟩ := hh.out
    obtain ⟨ja, jc, rfl⟩ := owns_slice0 r2
    exact ⟨ja, jc, r1, r2, r3⟩
  have hcb : (c == L) = false := by simpa using hc
  have d1 : decide ((65536 : Int) < (n : Nat)) = false := by simp; omega
  have d2 : decide ((65536 : Int) < (N : Nat)) = false := by simp; omega
  have d3 : decide (((n : Nat) : Int) < 0) = false := by simp
  rw [← HY.out]
  go_enter Tryd.func19, Tryd.ntmps19
  go_upto_region 2 with (go_at_call 30; refine H30.out.mono ?_; intro e1 w1 hh; obtain ⟨ja, jc, rfl, ho1, hb1⟩ := hh.out)
  have HJ1 : Hid (w1.ownsRow w.heap.size 5 1 (.slice ja N jc) N (cellsU8 ys)) := ho1
  have HT1 : Hid (Touch w w1 g 0 5) := (Touch.refl w g 0 5).below hb1 HGW.out
  have HS1 : Hid (RSp w1 g dg L c ka kc va vc (fL K (szOf dg)) (fL V (szOf dg))) := hs.out.below hb1
  clear hh ho1 hb1 H30
  have c1 : w1.cell? ⟨g, 1, none⟩ = some (.int .i64 L) := HS1.out.c1
  have c2 : w1.cell? ⟨g, 2, none⟩ = some (.int .i64 c) := HS1.out.c2
  go_upto_region 8 with fail
  go_quiet (fail)
  have HSd : Hid (RSp (w1.drewN nq) g dg L c ka kc va vc (fL K (szOf dg)) (fL V (szOf dg))) := HS1.out.blk rfl (fun _ _ _ => rfl) (fun _ _ _ => rfl)
  have HTd : Hid (Touch w (w1.drewN nq) g 0 5) := HT1.out.drewN nq
  have HJd : Hid ((w1.drewN nq).ownsRow w.heap.size 5 1 (.slice ja N jc) N (cellsU8 ys)) := HJ1.out
  generalize w1.drewN nq = wd at HSd HTd HJd ⊢
  clear c1 c2 HS1 HT1 HJ1
  have HU : Hid (∀ (u : World) (K V : Nat → Int) (ka va : Option Addr) (kc vc : Nat), RSp u g dg L c ka kc va vc (fL K (szOf dg)) (fL V (szOf dg)) → Touch w u g 0 5 → u.ownsRow w.heap.size 5 1 (.slice ja N jc) N (cellsU8 ys) → Calls Tryd.prog 31 #[.pointer (some ⟨g, 0, none⟩), .slice ja N jc] u fun e w' => Hid (e = .returned (.tuple #[]) ∧ RUpdP u w' g dg L c K V ys)) := by
    intro u K V ka va kc vc h1 h2 h3
    have q := rupdate_ok g dg L c ka va ja kc vc N jc (fL K (szOf dg)) (fL V (szOf dg)) ys u k h1 (hR.out.touch h2 hg) (viewOwns h3 HYN.out) HYN.out (by omega) hg (fun b off l c e => .inl (by injection e with e1 _ _; have := (h3.lt b (by rw [e1]; rfl)).1; have := HGW.out; omega))
    refine q.mono ?_
    intro e w' hh
    obtain ⟨r1, ka', kc', va', vc', r2, r3, r4⟩ := hh.out
    rw [upd_rst k.out] at r2
    exact ⟨r1, ka', kc', va', vc', r2, r3, r4⟩
  obtain ⟨K1, HK1⟩ : ∃ K1, Hid (K1 = preK dg K V ys) := ⟨_, rfl⟩
  obtain ⟨V1, HV1⟩ : ∃ V1, Hid (V1 = preV dg K V ys) := ⟨_, rfl⟩
  by_cases h0 : N = 0
  · have HE : Hid (ys = []) := List.eq_nil_of_length_eq_zero (by rw [HYN.out]; exact h0)
    have h1 : ¬ (0 : Int) < (N : Nat) := by omega
    clear h0
    have HSa : Hid (RSp wd g dg L c ka kc va vc (fL K1 (szOf dg)) (fL V1 (szOf dg))) := by
      show RSp _ _ _ _ _ _ _ _ _ _ _
      rw [HK1.out, HV1.out, preK, preV, if_pos HE.out, if_pos HE.out]
      exact HSd.out
    go_upto_region 12 with fail
    have HJX := HJd
    obtain ⟨KL, HKL⟩ : ∃ KL, Hid (KL = fL K1 (szOf dg)) := ⟨_, rfl⟩
    obtain ⟨VL, HVL⟩ : ∃ VL, Hid (VL = fL V1 (szOf dg)) := ⟨_, rfl⟩
    have HVLl : Hid (VL.length = szOf dg) := by show _ = _; rw [HVL.out, fL_length]
    have HGA : Hid (g < wd.heap.size) := HSa.out.lt
    have HM0 : Hid (RMid wd wd g dg L c ka va none kc vc 0 0 0 KL VL) := ⟨by rw [HKL.out, HVL.out]; exact HSa.out, Touch.refl _ _ _ _, World.ownsRow_nil _ _ _ _, fun b off e b' off' e' => (by cases e')⟩
    have HKN : Hid (∀ b off, ka = some ⟨b, off, none⟩ → b < wd.heap.size) := fun b off e => view_blk_lt (w := wd) (off := off) (n := szOf dg) (c := kc) (zs := fL K1 (szOf dg)) (by have q := HSa.out.vK; rw [e] at q; exact q) (by rw [fL_length, ← HSZ.out]; omega)
    go_wp2
    go_loopw [9] (fun vo wr => ∃ q l oc vc2 : Nat, ∃ oa va2 : Option Addr, vo = .slice oa l oc ∧ l ≤ 65600 ∧ Hid (l = q * sz) ∧ Hid (q = 0 ∨ (q - 1) * sz < n) ∧ Hid (RMid wd wr g dg L c ka va2 oa kc vc2 oc q l KL VL)) (fun vo _ => n - slLen vo)
    case atStart => exact ⟨0, 0, 0, vc, none, va, rfl, by omega, (by show 0 = _; rw [Nat.zero_mul]), .inl rfl, HM0.out⟩
    case round =>
      obtain ⟨q, l, oc, vc2, oa, va2, rfl, hl2, HL, HQ, HM⟩ := hrel
      clear HM0
      by_cases hlt : (l : Int) < (n : Nat)
      · obtain ⟨VQ, HVQ⟩ : ∃ Z, Hid (Z = rvq dg KL VL q) := ⟨_, rfl⟩
        have HSr : Hid (RSp wr g dg L c ka kc va2 vc2 KL VQ) := by rw [HVQ.out]; exact HM.out.sp
        obtain ⟨Z2, HZ2⟩ : ∃ Z, Hid (Z = hmac dg KL VQ) := ⟨_, rfl⟩
        have HZ2l : Hid (Z2.length = sz) := by show _ = _; rw [HZ2.out, hmac_len k.out, HSZ.out]
        have HC9 : Hid (∀ u, Sm wr u → Calls Tryd.prog 32 #[.int .i64 dg, .slice ka sz kc, .slice va2 sz vc2] u fun e w' => Hid (∃ a0 c0, e = .returned (.slice a0 sz c0) ∧ View w' (.slice a0 sz c0) Z2 ∧ (∀ b off, a0 = some ⟨b, off, none⟩ → wr.heap.size ≤ b ∧ b < w'.heap.size) ∧ Below wr.heap.size wr w')) := fun u hu => by
          have hbu : Below wr.heap.size wr u := Below.ofSm (Below.refl _ _) hu
          have hRr := hR.out.touch (HTd.out.trans HM.out.tou) hg
          have q := rcode_walk dg ka sz kc va2 sz vc2 KL VQ u k (hRr.below hbu (by have := hRr.size; omega)) (by show View _ _ _; have r := HSr.out.vK; rw [← HSZ.out] at r; exact hu.view r) (by show _ = _; rw [HSZ.out]; exact HSr.out.lK) (by show View _ _ _; have r := HSr.out.vV; rw [← HSZ.out] at r; exact hu.view r) (by show _ = _; rw [HSZ.out]; exact HSr.out.lV) (by omega) (by omega)
          rw [← HSZ.out, ← HZ2.out] at q
          refine q.mono ?_
          rintro e w' ⟨v', r1, r2, r3⟩
          obtain ⟨a0, c0, rfl⟩ := owns_slice0 r2
          exact ⟨a0, c0, r1, viewOwns r2 HZ2l.out, fun b off e => by have := r2.lt b (by rw [e]; rfl); have := hbu.size; omega, hbu.trans (r3.mono hbu.size)⟩
        have c0 := HSr.out.c0
        have c3 := HSr.out.c3
        have c4 := HSr.out.c4
        rw [← HSZ.out] at c3 c4
        go_upto_region 14 with fail
        go_region_with (go_at_call 32; refine (HC9.out _ ?_).mono ?_; exact ⟨rfl, rfl, rfl, rfl⟩; intro e10 w10 hh; obtain ⟨a10, c10, rfl, hv10, ha10, hb10⟩ := hh.out; have p4 : w10.cell? ⟨g, 4, none⟩ = some (.slice va2 (szOf dg) vc2) := (HSr.out.below hb10).c4; have z4 : w10.frozen? ⟨g, 4, none⟩ = false := (by have := ((HSr.out.below hb10).there 4 (by omega)).2; simpa using this))
        all_goals
          have HT11 : Hid (Touch wr (w10.setCell ⟨g, 4, none⟩ (.slice a10 sz c10)) g 0 5) := ((Touch.refl wr g 0 5).below hb10 HSr.out.lt).setCell 4 _ (by omega) (by omega)
          have HS11 : Hid (RSp (w10.setCell ⟨g, 4, none⟩ (.slice a10 sz c10)) g dg L c ka kc a10 c10 KL Z2) := by
            have q := (HSr.out.below hb10).setV a10 c10 Z2 (by rw [← HSZ.out]; exact hv10) (by rw [← HSZ.out]; exact HZ2l.out) (fun b off e => by have := ha10 b off e; have := HSr.out.lt; omega)
            rw [← HSZ.out] at q
            exact q
          have HA11 : Hid (∀ b off, a10 = some ⟨b, off, none⟩ → wr.heap.size ≤ b ∧ b < (w10.setCell ⟨g, 4, none⟩ (.slice a10 sz c10)).heap.size) := fun b off e => by have := ha10 b off e; simpa using this
          generalize w10.setCell ⟨g, 4, none⟩ (.slice a10 sz c10) = w11 at HT11 HS11 HA11 ⊢
          clear hh hv10 ha10 hb10 p4 z4 c0 c3 c4 HC9 HSr
          have HO11 : Hid (w11.ownsRow wd.heap.size 5 1 (.slice oa l oc) l (cellsU8 (rout dg KL VL q))) := owns_touch HM.out.own HT11.out HGA.out
          have HV11 : Hid (View w11 (.slice a10 sz c10) Z2) := by have q := HS11.out.vV; rw [← HSZ.out] at q; exact q
          have c4 : w11.cell? ⟨g, 4, none⟩ = some (.slice a10 sz c10) := by have q := HS11.out.c4; rw [← HSZ.out] at q; exact q
          have HOl : Hid (∀ b off, oa = some ⟨b, off, none⟩ → wd.heap.size ≤ b ∧ b < wr.heap.size) := fun b off e => HM.out.own.lt b (by rw [e]; rfl)
          have HW11 : Hid (wd.heap.size ≤ w11.heap.size) := Nat.le_trans HM.out.tou.size HT11.out.size
          go_wp2_with (first | (at_builtin; go_must (refine wpList_append_view rfl (.tmp 62) (.tmp 66) rfl wd.heap.size l (l + sz) (.slice oa l oc) (rout dg KL VL q) rfl HO11.out a10 sz c10 rfl Z2 HV11.out HZ2l.out rfl (by omega) HW11.out ?_)))
          intro v12 w12 hown12 hgrow12 hat12
          obtain ⟨oa2, oc2, rfl⟩ := owns_slice0 hown12
          have hown : ∀ b, (Value.slice oa l oc).ownBlock = some b → wd.heap.size ≤ b ∧ b < wr.heap.size := fun b hb => HM.out.own.lt b hb
          have hs11 : wr.heap.size ≤ w11.heap.size := HT11.out.size
          have hga := HGA.out
          have hw11 := HW11.out
          have HM12 : Hid (RMid wd w12 g dg L c ka a10 oa2 kc c10 oc2 (q + 1) (l + sz) KL VL) := by
            have hblk : ∀ b, b < w11.heap.size → some b ≠ (Value.slice oa l oc).ownBlock → w12.heap[b]? = w11.heap[b]? := fun b hb hne => hgrow12.block b hb hne
            refine ⟨?_, (HM.out.tou.trans HT11.out).then ((Below.refl _ _).grown hgrow12 HW11.out (fun b hb => (hown b hb).1)) hga, ?_, ?_⟩
            · rw [rvq, ← HVQ.out, ← HZ2.out]
              refine HS11.out.blk (hblk g (by omega) (fun e => by have := hown g e.symm; omega)) (fun b off e => hblk b (by have := HKN.out b off e; omega) (fun e2 => by have := hown b e2.symm; have := HKN.out b off e; omega)) (fun b off e => hblk b (HA11.out b off e).2 (fun e2 => by have := hown b e2.symm; have := HA11.out b off e; omega))
            · rw [rout, rvq, ← HVQ.out, ← HZ2.out]
              exact hown12
            · intro b off e b' off' e' hbb
              have h1 := HA11.out b off e
              subst hbb
              rcases hat12 with h2 | h2
              · have h3 := hown b (by rw [← h2, e']; rfl)
                omega
              · rw [e'] at h2
                have h3 : b = w11.heap.size := by simpa [Value.ownBlock] using h2
                omega
          have HL12 : Hid (l + sz = (q + 1) * sz) := by show _ = _; rw [HL.out, Nat.succ_mul]
          have HQ12 : Hid (q + 1 = 0 ∨ (q + 1 - 1) * sz < n) := .inr (by rw [Nat.add_sub_cancel, ← HL.out]; omega)
          clear hown12 hgrow12 hat12 HV11 HO11 HT11 HS11 HA11 c4 hown HOl
          go_wp2
          go_roundw
          case rel => exact ⟨q + 1, l + sz, oc2, c10, oa2, a10, rfl, by omega, HL12, HQ12, HM12⟩
          case measure => simp [slLen]; omega
      · have hln : n ≤ l := by omega
        have HQ2 : Hid (q = (n + szOf dg - 1) / szOf dg) := by rw [← HSZ.out]; exact (ceil_eq n sz q hsz.1 (by rw [← HL.out]; exact hln) HQ.out).symm
        have HSr : Hid (RSp wr g dg L c ka kc va2 vc2 (fL K1 (szOf dg)) (fL (drV0 dg K V ys n) (szOf dg))) := by
          have r := HM.out.sp
          rw [HKL.out, HVL.out, rvq_eq k.out] at r
          have e1 : drV0 dg K V ys n = vq dg K1 V1 q := by rw [HK1.out, HV1.out, HQ2.out]; rfl
          rw [e1]
          exact r
        have HTr : Hid (Touch w wr g 0 5) := HTd.out.trans HM.out.tou
        have HJr : Hid (wr.ownsRow w.heap.size 5 1 (.slice ja N jc) N (cellsU8 ys)) := owns_touch HJX.out HM.out.tou HGW.out
        have HRL : Hid ((rout dg KL VL q).length = l) := by show _ = _; rw [rout_len k.out _ _ HVLl.out, HL.out, HSZ.out]
        have HVo : Hid (View wr (.slice oa l oc) (rout dg KL VL q) ∧ (∀ b off, oa = some ⟨b, off, none⟩ → wd.heap.size ≤ b)) := ⟨viewOwns HM.out.own HRL.out, fun b off e => (HM.out.own.lt b (by rw [e]; rfl)).1⟩
        clear HM
        go_upto_region 17 with (go_at_call 31; refine (HU.out _ K1 _ _ _ _ _ HSr.out HTr.out HJr.out).mono ?_; intro e4 w4 hh; obtain ⟨rfl, ka3, kc3, va3, vc3, hs4, ht4, hn4⟩ := hh.out)
        have HN4 : Hid (New2 w ka3 va3) := ⟨fun b off e => Nat.le_trans HTr.out.size (hn4.1 b off e), fun b off e => Nat.le_trans HTr.out.size (hn4.2 b off e)⟩
        clear hn4
        have HS4 : Hid (RSp w4 g dg L c ka3 kc3 va3 vc3 (fL (drK dg K V ys n) (szOf dg)) (fL (drV dg K V ys n) (szOf dg))) := by
          have q := hs4
          rw [HK1.out] at q
          exact q
        have hga := HGA.out
        have HV4 : Hid (View w4 (.slice oa l oc) (rout dg KL VL q)) := ht4.view HVo.out.1 (fun b' off l' c' e => .inl (by injection e with e1 _ _; have := HVo.out.2 b' off e1; omega))
        have HT4 : Hid (Touch w w4 g 0 5) := HTr.out.trans ht4
        clear hh hs4 ht4 HSr HJr
        have c2 : w4.cell? ⟨g, 2, none⟩ = some (.int .i64 c) := HS4.out.c2
        have f2 : w4.frozen? ⟨g, 2, none⟩ = false := by have := (HS4.out.there 2 (by omega)).2; simpa using this
        have HF : Hid (View (w4.setCell ⟨g, 2, none⟩ (.int .i64 (c + 1))) (.slice oa l oc) (rout dg KL VL q) ∧ RSp (w4.setCell ⟨g, 2, none⟩ (.int .i64 (c + 1))) g dg L (c + 1) ka3 kc3 va3 vc3 (fL (drK dg K V ys n) (szOf dg)) (fL (drV dg K V ys n) (szOf dg)) ∧ Touch w (w4.setCell ⟨g, 2, none⟩ (.int .i64 (c + 1))) g 0 5) := by
          have t5 : Touch w4 (w4.setCell ⟨g, 2, none⟩ (.int .i64 (c + 1))) g 0 5 := (Touch.refl w4 g 0 5).setCell 2 _ (by omega) (by omega)
          exact ⟨t5.view HV4.out (fun b' off l' c' e => .inl (by injection e with e1 _ _; have := HVo.out.2 b' off e1; omega)), HS4.out.setC (c + 1), HT4.out.trans t5⟩
        clear HS4 HT4
        have HGv : Hid ((rout dg KL VL q).take n = fL (drO dg K V ys) n) := by
          show _ = _
          rw [HKL.out, HVL.out, rout_take k.out _ _ _ _ (by rw [← HSZ.out, ← HL.out]; exact hln), HK1.out, HV1.out]
          rfl
        have hwa := HTd.out.size
        obtain ⟨oa', oc', eo, ho1, ho2, ho3, _⟩ := HV4.out
        have hoc : l ≤ oc ∧ oc ≤ 9223372036854775807 := by injection eo with e1 e2 e3; have := HRL.out; unfold maxLen at ho2; omega
        have ho4 : oa = none → oc = 0 := by injection eo with e1 e2 e3; intro e; rw [e3]; exact ho3 (by rw [← e1]; exact e)
        clear eo ho1 ho2 ho3 HV4
        have HEND : Hid (∀ e, e = .returned (.tuple #[.slice oa n oc, .int .i64 0]) → RDrawP w (w4.setCell ⟨g, 2, none⟩ (.int .i64 (c + 1))) e g dg K V L c n ys) := fun e he => ⟨oa, oc, ka3, kc3, va3, vc3, he, by rw [← HGv.out]; exact view_take2 HF.out.1 (by rw [HRL.out]; exact hln), fun b off e1 => by have := HVo.out.2 b off e1; omega, HF.out.2.1, HF.out.2.2, HN4.out⟩
        cases oa with
        | none =>
          obtain rfl := ho4 rfl
          obtain rfl : l = 0 := by omega
          obtain rfl : n = 0 := by omega
          go_wp2
          go_ret2
          exact HEND.out _ rfl
        | some x =>
          obtain ⟨xb, xo, xi⟩ := x
          go_wp2
          go_ret2
          exact HEND.out _ rfl
  · have h1 : (0 : Int) < (N : Nat) := by omega
    have HE : Hid (ys ≠ []) := fun e => h0 (by rw [← HYN.out, e]; rfl)
    go_upto_region 12 with (go_at_call 31; refine (HU.out _ _ _ _ _ _ _ HSd.out HTd.out HJd.out).mono ?_; intro e2 wa hh; obtain ⟨rfl, ka1, kc1, va1, vc1, hsa, hta, _⟩ := hh.out)
    have HSa : Hid (RSp wa g dg L c ka1 kc1 va1 vc1 (fL K1 (szOf dg)) (fL V1 (szOf dg))) := by
      show RSp _ _ _ _ _ _ _ _ _ _ _
      rw [HK1.out, HV1.out, preK, preV, if_neg HE.out, if_neg HE.out]
      exact hsa
    have HTa : Hid (Touch w wa g 0 5) := HTd.out.trans hta
    have HJX : Hid (wa.ownsRow w.heap.size 5 1 (.slice ja N jc) N (cellsU8 ys)) := owns_touch HJd.out hta HGW.out
    clear hh hsa hta HSd HTd HJd
    obtain ⟨KL, HKL⟩ : ∃ KL, Hid (KL = fL K1 (szOf dg)) := ⟨_, rfl⟩
    obtain ⟨VL, HVL⟩ : ∃ VL, Hid (VL = fL V1 (szOf dg)) := ⟨_, rfl⟩
    have HVLl : Hid (VL.length = szOf dg) := by show _ = _; rw [HVL.out, fL_length]
    have HGA : Hid (g < wa.heap.size) := HSa.out.lt
    have HM0 : Hid (RMid wa wa g dg L c ka1 va1 none kc1 vc1 0 0 0 KL VL) := ⟨by rw [HKL.out, HVL.out]; exact HSa.out, Touch.refl _ _ _ _, World.ownsRow_nil _ _ _ _, fun b off e b' off' e' => (by cases e')⟩
    have HKN : Hid (∀ b off, ka1 = some ⟨b, off, none⟩ → b < wa.heap.size) := fun b off e => view_blk_lt (w := wa) (off := off) (n := szOf dg) (c := kc1) (zs := fL K1 (szOf dg)) (by have q := HSa.out.vK; rw [e] at q; exact q) (by rw [fL_length, ← HSZ.out]; omega)
    go_wp2
    go_loopw [9] (fun vo wr => ∃ q l oc vc2 : Nat, ∃ oa va2 : Option Addr, vo = .slice oa l oc ∧ l ≤ 65600 ∧ Hid (l = q * sz) ∧ Hid (q = 0 ∨ (q - 1) * sz < n) ∧ Hid (RMid wa wr g dg L c ka1 va2 oa kc1 vc2 oc q l KL VL)) (fun vo _ => n - slLen vo)
    case atStart => exact ⟨0, 0, 0, vc1, none, va1, rfl, by omega, (by show 0 = _; rw [Nat.zero_mul]), .inl rfl, HM0.out⟩
    case round =>
      obtain ⟨q, l, oc, vc2, oa, va2, rfl, hl2, HL, HQ, HM⟩ := hrel
      clear HM0
      by_cases hlt : (l : Int) < (n : Nat)
      · obtain ⟨VQ, HVQ⟩ : ∃ Z, Hid (Z = rvq dg KL VL q) := ⟨_, rfl⟩
        have HSr : Hid (RSp wr g dg L c ka1 kc1 va2 vc2 KL VQ) := by rw [HVQ.out]; exact HM.out.sp
        obtain ⟨Z2, HZ2⟩ : ∃ Z, Hid (Z = hmac dg KL VQ) := ⟨_, rfl⟩
        have HZ2l : Hid (Z2.length = sz) := by show _ = _; rw [HZ2.out, hmac_len k.out, HSZ.out]
        have HC9 : Hid (∀ u, Sm wr u → Calls Tryd.prog 32 #[.int .i64 dg, .slice ka1 sz kc1, .slice va2 sz vc2] u fun e w' => Hid (∃ a0 c0, e = .returned (.slice a0 sz c0) ∧ View w' (.slice a0 sz c0) Z2 ∧ (∀ b off, a0 = some ⟨b, off, none⟩ → wr.heap.size ≤ b ∧ b < w'.heap.size) ∧ Below wr.heap.size wr w')) := fun u hu => by
          have hbu : Below wr.heap.size wr u := Below.ofSm (Below.refl _ _) hu
          have hRr := hR.out.touch (HTa.out.trans HM.out.tou) hg
          have q := rcode_walk dg ka1 sz kc1 va2 sz vc2 KL VQ u k (hRr.below hbu (by have := hRr.size; omega)) (by show View _ _ _; have r := HSr.out.vK; rw [← HSZ.out] at r; exact hu.view r) (by show _ = _; rw [HSZ.out]; exact HSr.out.lK) (by show View _ _ _; have r := HSr.out.vV; rw [← HSZ.out] at r; exact hu.view r) (by show _ = _; rw [HSZ.out]; exact HSr.out.lV) (by omega) (by omega)
          rw [← HSZ.out, ← HZ2.out] at q
          refine q.mono ?_
          rintro e w' ⟨v', r1, r2, r3⟩
          obtain ⟨a0, c0, rfl⟩ := owns_slice0 r2
          exact ⟨a0, c0, r1, viewOwns r2 HZ2l.out, fun b off e => by have := r2.lt b (by rw [e]; rfl); have := hbu.size; omega, hbu.trans (r3.mono hbu.size)⟩
        have c0 := HSr.out.c0
        have c3 := HSr.out.c3
        have c4 := HSr.out.c4
        rw [← HSZ.out] at c3 c4
        go_upto_region 14 with fail
        go_region_with (go_at_call 32; refine (HC9.out _ ?_).mono ?_; exact ⟨rfl, rfl, rfl, rfl⟩; intro e10 w10 hh; obtain ⟨a10, c10, rfl, hv10, ha10, hb10⟩ := hh.out; have p4 : w10.cell? ⟨g, 4, none⟩ = some (.slice va2 (szOf dg) vc2) := (HSr.out.below hb10).c4; have z4 : w10.frozen? ⟨g, 4, none⟩ = false := (by have := ((HSr.out.below hb10).there 4 (by omega)).2; simpa using this))
        all_goals
          have HT11 : Hid (Touch wr (w10.setCell ⟨g, 4, none⟩ (.slice a10 sz c10)) g 0 5) := ((Touch.refl wr g 0 5).below hb10 HSr.out.lt).setCell 4 _ (by omega) (by omega)
          have HS11 : Hid (RSp (w10.setCell ⟨g, 4, none⟩ (.slice a10 sz c10)) g dg L c ka1 kc1 a10 c10 KL Z2) := by
            have q := (HSr.out.below hb10).setV a10 c10 Z2 (by rw [← HSZ.out]; exact hv10) (by rw [← HSZ.out]; exact HZ2l.out) (fun b off e => by have := ha10 b off e; have := HSr.out.lt; omega)
            rw [← HSZ.out] at q
            exact q
          have HA11 : Hid (∀ b off, a10 = some ⟨b, off, none⟩ → wr.heap.size ≤ b ∧ b < (w10.setCell ⟨g, 4, none⟩ (.slice a10 sz c10)).heap.size) := fun b off e => by have := ha10 b off e; simpa using this
          generalize w10.setCell ⟨g, 4, none⟩ (.slice a10 sz c10) = w11 at HT11 HS11 HA11 ⊢
          clear hh hv10 ha10 hb10 p4 z4 c0 c3 c4 HC9 HSr
          have HO11 : Hid (w11.ownsRow wa.heap.size 5 1 (.slice oa l oc) l (cellsU8 (rout dg KL VL q))) := owns_touch HM.out.own HT11.out HGA.out
          have HV11 : Hid (View w11 (.slice a10 sz c10) Z2) := by have q := HS11.out.vV; rw [← HSZ.out] at q; exact q
          have c4 : w11.cell? ⟨g, 4, none⟩ = some (.slice a10 sz c10) := by have q := HS11.out.c4; rw [← HSZ.out] at q; exact q
          have HOl : Hid (∀ b off, oa = some ⟨b, off, none⟩ → wa.heap.size ≤ b ∧ b < wr.heap.size) := fun b off e => HM.out.own.lt b (by rw [e]; rfl)
          have HW11 : Hid (wa.heap.size ≤ w11.heap.size) := Nat.le_trans HM.out.tou.size HT11.out.size
          go_wp2_with (first | (at_builtin; go_must (refine wpList_append_view rfl (.tmp 62) (.tmp 66) rfl wa.heap.size l (l + sz) (.slice oa l oc) (rout dg KL VL q) rfl HO11.out a10 sz c10 rfl Z2 HV11.out HZ2l.out rfl (by omega) HW11.out ?_)))
          intro v12 w12 hown12 hgrow12 hat12
          obtain ⟨oa2, oc2, rfl⟩ := owns_slice0 hown12
          have hown : ∀ b, (Value.slice oa l oc).ownBlock = some b → wa.heap.size ≤ b ∧ b < wr.heap.size := fun b hb => HM.out.own.lt b hb
          have hs11 : wr.heap.size ≤ w11.heap.size := HT11.out.size
          have hga := HGA.out
          have hw11 := HW11.out
          have HM12 : Hid (RMid wa w12 g dg L c ka1 a10 oa2 kc1 c10 oc2 (q + 1) (l + sz) KL VL) := by
            have hblk : ∀ b, b < w11.heap.size → some b ≠ (Value.slice oa l oc).ownBlock → w12.heap[b]? = w11.heap[b]? := fun b hb hne => hgrow12.block b hb hne
            refine ⟨?_, (HM.out.tou.trans HT11.out).then ((Below.refl _ _).grown hgrow12 HW11.out (fun b hb => (hown b hb).1)) hga, ?_, ?_⟩
            · rw [rvq, ← HVQ.out, ← HZ2.out]
              refine HS11.out.blk (hblk g (by omega) (fun e => by have := hown g e.symm; omega)) (fun b off e => hblk b (by have := HKN.out b off e; omega) (fun e2 => by have := hown b e2.symm; have := HKN.out b off e; omega)) (fun b off e => hblk b (HA11.out b off e).2 (fun e2 => by have := hown b e2.symm; have := HA11.out b off e; omega))
            · rw [rout, rvq, ← HVQ.out, ← HZ2.out]
              exact hown12
            · intro b off e b' off' e' hbb
              have h1 := HA11.out b off e
              subst hbb
              rcases hat12 with h2 | h2
              · have h3 := hown b (by rw [← h2, e']; rfl)
                omega
              · rw [e'] at h2
                have h3 : b = w11.heap.size := by simpa [Value.ownBlock] using h2
                omega
          have HL12 : Hid (l + sz = (q + 1) * sz) := by show _ = _; rw [HL.out, Nat.succ_mul]
          have HQ12 : Hid (q + 1 = 0 ∨ (q + 1 - 1) * sz < n) := .inr (by rw [Nat.add_sub_cancel, ← HL.out]; omega)
          clear hown12 hgrow12 hat12 HV11 HO11 HT11 HS11 HA11 c4 hown HOl
          go_wp2
          go_roundw
          case rel => exact ⟨q + 1, l + sz, oc2, c10, oa2, a10, rfl, by omega, HL12, HQ12, HM12⟩
          case measure => simp [slLen]; omega
      · have hln : n ≤ l := by omega
        have HQ2 : Hid (q = (n + szOf dg - 1) / szOf dg) := by rw [← HSZ.out]; exact (ceil_eq n sz q hsz.1 (by rw [← HL.out]; exact hln) HQ.out).symm
        have HSr : Hid (RSp wr g dg L c ka1 kc1 va2 vc2 (fL K1 (szOf dg)) (fL (drV0 dg K V ys n) (szOf dg))) := by
          have r := HM.out.sp
          rw [HKL.out, HVL.out, rvq_eq k.out] at r
          have e1 : drV0 dg K V ys n = vq dg K1 V1 q := by rw [HK1.out, HV1.out, HQ2.out]; rfl
          rw [e1]
          exact r
        have HTr : Hid (Touch w wr g 0 5) := HTa.out.trans HM.out.tou
        have HJr : Hid (wr.ownsRow w.heap.size 5 1 (.slice ja N jc) N (cellsU8 ys)) := owns_touch HJX.out HM.out.tou HGW.out
        have HRL : Hid ((rout dg KL VL q).length = l) := by show _ = _; rw [rout_len k.out _ _ HVLl.out, HL.out, HSZ.out]
        have HVo : Hid (View wr (.slice oa l oc) (rout dg KL VL q) ∧ (∀ b off, oa = some ⟨b, off, none⟩ → wa.heap.size ≤ b)) := ⟨viewOwns HM.out.own HRL.out, fun b off e => (HM.out.own.lt b (by rw [e]; rfl)).1⟩
        clear HM
        go_upto_region 17 with (go_at_call 31; refine (HU.out _ K1 _ _ _ _ _ HSr.out HTr.out HJr.out).mono ?_; intro e4 w4 hh; obtain ⟨rfl, ka3, kc3, va3, vc3, hs4, ht4, hn4⟩ := hh.out)
        have HN4 : Hid (New2 w ka3 va3) := ⟨fun b off e => Nat.le_trans HTr.out.size (hn4.1 b off e), fun b off e => Nat.le_trans HTr.out.size (hn4.2 b off e)⟩
        clear hn4
        have HS4 : Hid (RSp w4 g dg L c ka3 kc3 va3 vc3 (fL (drK dg K V ys n) (szOf dg)) (fL (drV dg K V ys n) (szOf dg))) := by
          have q := hs4
          rw [HK1.out] at q
          exact q
        have hga := HGA.out
        have HV4 : Hid (View w4 (.slice oa l oc) (rout dg KL VL q)) := ht4.view HVo.out.1 (fun b' off l' c' e => .inl (by injection e with e1 _ _; have := HVo.out.2 b' off e1; omega))
        have HT4 : Hid (Touch w w4 g 0 5) := HTr.out.trans ht4
        clear hh hs4 ht4 HSr HJr
        have c2 : w4.cell? ⟨g, 2, none⟩ = some (.int .i64 c) := HS4.out.c2
        have f2 : w4.frozen? ⟨g, 2, none⟩ = false := by have := (HS4.out.there 2 (by omega)).2; simpa using this
        have HF : Hid (View (w4.setCell ⟨g, 2, none⟩ (.int .i64 (c + 1))) (.slice oa l oc) (rout dg KL VL q) ∧ RSp (w4.setCell ⟨g, 2, none⟩ (.int .i64 (c + 1))) g dg L (c + 1) ka3 kc3 va3 vc3 (fL (drK dg K V ys n) (szOf dg)) (fL (drV dg K V ys n) (szOf dg)) ∧ Touch w (w4.setCell ⟨g, 2, none⟩ (.int .i64 (c + 1))) g 0 5) := by
          have t5 : Touch w4 (w4.setCell ⟨g, 2, none⟩ (.int .i64 (c + 1))) g 0 5 := (Touch.refl w4 g 0 5).setCell 2 _ (by omega) (by omega)
          exact ⟨t5.view HV4.out (fun b' off l' c' e => .inl (by injection e with e1 _ _; have := HVo.out.2 b' off e1; omega)), HS4.out.setC (c + 1), HT4.out.trans t5⟩
        clear HS4 HT4
        have HGv : Hid ((rout dg KL VL q).take n = fL (drO dg K V ys) n) := by
          show _ = _
          rw [HKL.out, HVL.out, rout_take k.out _ _ _ _ (by rw [← HSZ.out, ← HL.out]; exact hln), HK1.out, HV1.out]
          rfl
        have hwa := HTa.out.size
        obtain ⟨oa', oc', eo, ho1, ho2, ho3, _⟩ := HV4.out
        have hoc : l ≤ oc ∧ oc ≤ 9223372036854775807 := by injection eo with e1 e2 e3; have := HRL.out; unfold maxLen at ho2; omega
        have ho4 : oa = none → oc = 0 := by injection eo with e1 e2 e3; intro e; rw [e3]; exact ho3 (by rw [← e1]; exact e)
        clear eo ho1 ho2 ho3 HV4
        have HEND : Hid (∀ e, e = .returned (.tuple #[.slice oa n oc, .int .i64 0]) → RDrawP w (w4.setCell ⟨g, 2, none⟩ (.int .i64 (c + 1))) e g dg K V L c n ys) := fun e he => ⟨oa, oc, ka3, kc3, va3, vc3, he, by rw [← HGv.out]; exact view_take2 HF.out.1 (by rw [HRL.out]; exact hln), fun b off e1 => by have := HVo.out.2 b off e1; omega, HF.out.2.1, HF.out.2.2, HN4.out⟩
        cases oa with
        | none =>
          obtain rfl := ho4 rfl
          obtain rfl : l = 0 := by omega
          obtain rfl : n = 0 := by omega
          go_wp2
          go_ret2
          exact HEND.out _ rfl
        | some x =>
          obtain ⟨xb, xo, xi⟩ := x
          go_wp2
          go_ret2
          exact HEND.out _ rfl
end Go.Proofs.YtkeklmkaleomkaaDoor
