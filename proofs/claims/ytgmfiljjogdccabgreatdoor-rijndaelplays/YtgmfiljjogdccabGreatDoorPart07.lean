import Derived.Test.YtgmfiljjogdccabGreatDoorPart06
import Derived.Test.YtgmfiljjogdccabGreatDoorPart00
namespace Go.Proofs.YtgmfiljjogdccabGreatDoor
open Go.RowKit
set_option linter.unusedVariables false
/-- The four cells that fillRow writes. -/
def rowSet (w : World) (g o b sb : Nat) : World :=
 (((w.setCell ⟨g, o + 61 + b, none⟩ (.int .u8 (sb : Nat))).setCell ⟨g, o + 317 + sb, none⟩ (.int .u8 (b : Nat))).setCell ⟨g, o + 573 + b, none⟩ (.int .u32 (wd (x2 sb) sb sb (x3 sb) : Nat))).setCell ⟨g, o + 829 + b, none⟩ (.int .u32 (wd (x14 b) (x9 b) (x13 b) (x11 b) : Nat))
theorem dbl_ex (a : Nat) (h : a < 256) (w : World) : Calls Tryz.prog 90 #[.int .u8 a] w fun e w' => ∃ z : Nat, z < 256 ∧ Hid (z = dblN a) ∧ e = .returned (.int .u8 (z : Nat)) ∧ w' = w :=
 (dbl_ok a h w).mono fun e w' ⟨h1, h2⟩ => ⟨_, dbl_lt ⟨a, h⟩, rfl, h1, h2⟩
set_option maxHeartbeats 3200000 in
set_option maxRecDepth 100000 in
theorem fillRow_ok (g o b sb : Nat) (w : World) (hb : b < 256) (hsb : sb < 256) (ht : w.there g o 1085) :
  Calls Tryz.prog 61 #[.pointer (some ⟨g, o, none⟩), .int .u8 b, .int .u8 sb] w fun e w' => e = .returned (.tuple #[]) ∧ ∃ m, w' = (rowSet w g o b sb).drewN m := by
 have t1 := ht (61 + b) (by omega)
 have t2 := ht (317 + sb) (by omega)
 rw [← Nat.add_assoc] at t1 t2
 obtain ⟨p1, q1⟩ := t1
 obtain ⟨p2, q2⟩ := t2
 obtain ⟨v1, c1⟩ := Option.isSome_iff_exists.1 p1
 obtain ⟨v2, c2⟩ := Option.isSome_iff_exists.1 p2
 clear p1 p2
 have HT : Hid (w.there g o 1085) := ht
 clear ht
 go_enter Tryz.func61, Tryz.ntmps61
 go_wp2
 go_region
 go_wp2_with (first | (go_at_call 90; (refine (dbl_ex sb hsb _).mono ?_)))
 rintro e1 w1 ⟨z, hz, HZ, rfl, hw1⟩
 have ht1 : w1.there g o 1085 := by rw [hw1]; exact (World.there_drew _ _ _ _).2 (World.there_setCells (World.there_setCells HT.out _ _ [_]) _ _ [_])
 have HW1 : Hid (w1 = (((w.setCell ⟨g, o + 61 + b, none⟩ (.int .u8 (sb : Nat))).setCell ⟨g, o + 317 + sb, none⟩ (.int .u8 (b : Nat))).drew)) := hw1
 clear hw1 HT c1 c2 q1 q2
 have t3 := ht1 (573 + b) (by omega)
 rw [← Nat.add_assoc] at t3
 obtain ⟨p3, q3⟩ := t3
 obtain ⟨v3, c3⟩ := Option.isSome_iff_exists.1 p3
 clear p3
 have HT1 : Hid (w1.there g o 1085) := ht1
 clear ht1
 obtain ⟨m0, HM0⟩ : ∃ m : Nat, Hid (m = wd (x2 sb) sb sb (x3 sb)) := ⟨_, rfl⟩
 have hx3 := xor_lt8 hz hsb
 have hk0 : Hid (∀ u, Calls Tryz.prog 91 #[.int .u8 (z : Nat), .int .u8 (sb : Nat), .int .u8 (sb : Nat), .int .u8 (bits .xor .u8 (z : Int) (sb : Int))] u fun e u' => e = .returned (.int .u32 (m0 : Nat)) ∧ u' = u) := fun u => by
  rw [xor8 _ _ hz hsb, HM0.out, HZ.out]
  rw [HZ.out] at hz hx3
  exact word_ok _ _ _ _ hz hsb hsb hx3 u
 clear hx3
 have hbi : ((b : Nat) : Int) < 256 := by omega
 go_wp2
 go_region_held3 (fun _ => True) (trivial) ((go_at_call 91; refine (hk0.out _).mono ?_; rintro e2 w2 ⟨rfl, hw2⟩; obtain rfl := hw2.symm))
 have HT2 : Hid ((w1.setCell ⟨g, o + 573 + b, none⟩ (.int .u32 (m0 : Nat))).drew.there g o 1085) := (World.there_drew _ _ _ _).2 (World.there_setCells HT1.out _ _ [_])
 obtain ⟨w2, HW2⟩ : ∃ w2, Hid (w2 = (w1.setCell ⟨g, o + 573 + b, none⟩ (.int .u32 (m0 : Nat))).drew) := ⟨_, rfl⟩
 rw [← HW2.out] at HT2 ⊢
 clear hk0 c3 q3 HT1
 go_wp2_with (first | (go_at_call 90; (refine (dbl_ex b hb _).mono ?_)))
 rintro e3 w3 ⟨d2, hd2, HD2, rfl, hw3⟩
 obtain rfl := hw3.symm
 go_wp2_with (first | (go_at_call 90; (refine (dbl_ex d2 hd2 _).mono ?_)))
 rintro e4 w4 ⟨d4, hd4, HD4, rfl, hw4⟩
 obtain rfl := hw4.symm
 go_wp2_with (first | (go_at_call 90; (refine (dbl_ex d4 hd4 _).mono ?_)))
 rintro e5 w5 ⟨d8, hd8, HD8, rfl, hw5⟩
 obtain rfl := hw5.symm
 have t4 := HT2.out (829 + b) (by omega)
 rw [← Nat.add_assoc] at t4
 obtain ⟨p4, q4⟩ := t4
 obtain ⟨v4, c4⟩ := Option.isSome_iff_exists.1 p4
 clear p4
 obtain ⟨n0, HN0⟩ : ∃ m : Nat, Hid (m = wd (x14 b) (x9 b) (x13 b) (x11 b)) := ⟨_, rfl⟩
 have hk1 : Hid (∀ u, Calls Tryz.prog 91 #[.int .u8 (bits .xor .u8 (bits .xor .u8 (d8 : Int) (d4 : Int)) (d2 : Int)), .int .u8 (bits .xor .u8 (d8 : Int) (b : Int)), .int .u8 (bits .xor .u8 (bits .xor .u8 (d8 : Int) (d4 : Int)) (b : Int)), .int .u8 (bits .xor .u8 (bits .xor .u8 (d8 : Int) (d2 : Int)) (b : Int))] u fun e u' => e = .returned (.int .u32 (n0 : Nat)) ∧ u' = u) := fun u => by
  rw [xor8 _ _ hd8 hd4, xor8 _ _ hd8 hd2, xor8 _ _ hd8 hb, xor8 _ _ (xor_lt8 hd8 hd4) hd2, xor8 _ _ (xor_lt8 hd8 hd4) hb, xor8 _ _ (xor_lt8 hd8 hd2) hb]
  have h := word_ok _ _ _ _ (xor_lt8 (xor_lt8 hd8 hd4) hd2) (xor_lt8 hd8 hb) (xor_lt8 (xor_lt8 hd8 hd4) hb) (xor_lt8 (xor_lt8 hd8 hd2) hb) u
  have e : n0 = wd (Nat.xor (Nat.xor d8 d4) d2) (Nat.xor d8 b) (Nat.xor (Nat.xor d8 d4) b) (Nat.xor (Nat.xor d8 d2) b) := by
   rw [HN0.out, HD8.out, HD4.out, HD2.out]
   exact rfl
  rw [e]
  exact h
 go_wp2
 go_region_held3 (fun _ => True) (trivial) ((go_at_call 91; refine (hk1.out _).mono ?_; rintro e6 w6 ⟨rfl, hw6⟩; obtain rfl := hw6.symm))
 go_wp2
 go_end0
 refine ⟨rfl, 3, ?_⟩
 rw [HN0.out, HW2.out, HM0.out, HW1.out]
 exact rfl
end Go.Proofs.YtgmfiljjogdccabGreatDoor
namespace Go.Proofs.YtgmfiljjogdccabGreatDoor
open Go.RowKit
set_option linter.unusedVariables false
/-- The powers of 3, those of its inverse, the logarithm: out of one number each. -/
def pwT (j : Nat) : Nat := Nat.mod (Nat.shiftRight 247704880781559356684414323119999879637317647180040216102211349143305888774923398537951341803642731683984666991564019150676315804531779449815159115664189418245566988781254625896260912026622159780553349108386186142268315007856282091988200171439146255715840100601167723801170608095743514940052926055042184507632911811387723359914440662207451538163404716729158929845121383729837235901114109841630616474463024741216292666125260571984924724184385554713500007113061044175325657975136216706165622836048350080632971744177780693200859426168487707538171671676645432511882666690861394815764438377708986394032816479809277592321 (Nat.mul 8 j)) 256
def ivT (j : Nat) : Nat := Nat.mod (Nat.shiftRight 127727404692115426734198332805968219844573505114629208686901216293690186132462130931675081705992402874744649337146722143913163583643487276303943818893807190013751092806990287370556889600057311714676499800760749547103353651662433367294783190206880884813569237221343399581497263169989195187996008530110587099785212876728548450345268301970899227233349908984604527389233338265073456776979288885037749793268642272576260293033947624555608176220260351415492203342228236466557716880135026471476615524857486394512952861707819425159769229481997196826278555408639803976402068508913166242851432043694978610662015700264484533761 (Nat.mul 8 j)) 256
def lgT (b : Nat) : Nat := Nat.mod (Nat.shiftRight 939374623831894136699086600277250597547650664638770418422125146541797353646788332867483593573384618611044815625336497665827114626705134492515730415652478061620339993830966980270842846318821775850471098591710629241171812800746666233448222972174585295916389942636813666312872914849454985560152530477328703759683306625234997237483834721220409437442253146756845415190424543171129629468776480674528486868811725071010351012234056630775688111116293610821126543142160426617079940511630006820862697466582575257349116925728488930366609138264019883664906661504235885380294353134295748489096855100647154935187045898006656778240 (Nat.mul 8 b)) 256
theorem pwT_lt (j : Nat) : pwT j < 256 := Nat.mod_lt _ (by decide)
theorem ivT_lt (j : Nat) : ivT j < 256 := Nat.mod_lt _ (by decide)
theorem pw_step : ∀ j : Fin 255, tmsN 8 0 (pwT j.1) 3 = pwT (j.1 + 1) ∧ tmsN 8 0 (ivT j.1) 246 = ivT (j.1 + 1) ∧ sprN (ivT j.1) = SB (pwT j.1) := by decide +kernel
theorem lg_all : ∀ b : Fin 256, b.1 = 0 ∨ (lgT b.1 < 255 ∧ pwT (lgT b.1) = b.1) := by decide +kernel
theorem SB_inj {b c : Nat} (hb : b < 256) (hc : c < 256) (h : SB b = SB c) : b = c := by
 have h1 := (UB_SB ⟨b, hb⟩).1
 have h2 := (UB_SB ⟨c, hc⟩).1
 simp only at h1 h2
 rw [← h1, ← h2, h]
/-- The row of a byte stands. -/
structure RowOk (w : World) (g o b : Nat) : Prop where
 s : w.cell? ⟨g, o + 61 + b, none⟩ = some (.int .u8 (SB b : Nat))
 u : w.cell? ⟨g, o + 317 + SB b, none⟩ = some (.int .u8 (b : Nat))
 m : w.cell? ⟨g, o + 573 + b, none⟩ = some (.int .u32 (MX b : Nat))
 n : w.cell? ⟨g, o + 829 + b, none⟩ = some (.int .u32 (UX b : Nat))
theorem cell_other (w : World) (g i j : Nat) (v : Value) (h : i ≠ j) : (w.setCell ⟨g, i, none⟩ v).cell? ⟨g, j, none⟩ = w.cell? ⟨g, j, none⟩ :=
 World.cell?_setCell_other w ⟨g, i, none⟩ ⟨g, j, none⟩ v (fun e => h (by cases e; rfl))
theorem cell_same {w : World} {g o i n : Nat} (v : Value) (ht : w.there g o n) (hi : i < n) : (w.setCell ⟨g, o + i, none⟩ v).cell? ⟨g, o + i, none⟩ = some v :=
 World.cell?_setCell_same' _ _ _ (ht i hi).1
theorem rowSet_same {w : World} {g o b : Nat} (ht : w.there g o 1085) (hb : b < 256) : RowOk (rowSet w g o b (SB b)) g o b := by
 have hs := SB_lt b
 unfold rowSet
 refine ⟨?_, ?_, ?_, ?_⟩
 ·rw [cell_other _ _ _ _ _ (by omega), cell_other _ _ _ _ _ (by omega), cell_other _ _ _ _ _ (by omega)]
  have := cell_same (i := 61 + b) (.int .u8 (SB b : Nat)) ht (by omega)
  rw [← Nat.add_assoc] at this
  exact this
 ·rw [cell_other _ _ _ _ _ (by omega), cell_other _ _ _ _ _ (by omega)]
  have := cell_same (i := 317 + SB b) (.int .u8 (b : Nat)) (World.there_setCells ht g (o + 61 + b) [.int .u8 (SB b : Nat)]) (by omega)
  rw [← Nat.add_assoc] at this
  exact this
 ·rw [cell_other _ _ _ _ _ (by omega)]
  have := cell_same (i := 573 + b) (.int .u32 (MX b : Nat)) (World.there_setCells (World.there_setCells ht g (o + 61 + b) [.int .u8 (SB b : Nat)]) g (o + 317 + SB b) [.int .u8 (b : Nat)]) (by omega)
  rw [← Nat.add_assoc] at this
  exact this
 ·have := cell_same (i := 829 + b) (.int .u32 (UX b : Nat)) (World.there_setCells (World.there_setCells (World.there_setCells ht g (o + 61 + b) [.int .u8 (SB b : Nat)]) g (o + 317 + SB b) [.int .u8 (b : Nat)]) g (o + 573 + b) [.int .u32 (MX b : Nat)]) (by omega)
  rw [← Nat.add_assoc] at this
  exact this
theorem rowSet_other {w : World} {g o b c : Nat} (hb : b < 256) (hc : c < 256) (hne : b ≠ c) (h : RowOk w g o c) : RowOk (rowSet w g o b (SB b)) g o c := by
 have hs := SB_lt b
 have hs' := SB_lt c
 have hsn : SB b ≠ SB c := fun e => hne (SB_inj hb hc e)
 unfold rowSet
 refine ⟨?_, ?_, ?_, ?_⟩
 ·rw [cell_other _ _ _ _ _ (by omega), cell_other _ _ _ _ _ (by omega), cell_other _ _ _ _ _ (by omega), cell_other _ _ _ _ _ (by omega)]; exact h.s
 ·rw [cell_other _ _ _ _ _ (by omega), cell_other _ _ _ _ _ (by omega), cell_other _ _ _ _ _ (by omega), cell_other _ _ _ _ _ (by omega)]; exact h.u
 ·rw [cell_other _ _ _ _ _ (by omega), cell_other _ _ _ _ _ (by omega), cell_other _ _ _ _ _ (by omega), cell_other _ _ _ _ _ (by omega)]; exact h.m
 ·rw [cell_other _ _ _ _ _ (by omega), cell_other _ _ _ _ _ (by omega), cell_other _ _ _ _ _ (by omega), cell_other _ _ _ _ _ (by omega)]; exact h.n
theorem RowOk.drewN {w : World} {g o b : Nat} (h : RowOk w g o b) (m : Nat) : RowOk (w.drewN m) g o b := ⟨h.s, h.u, h.m, h.n⟩
theorem rowSet_touch {w v : World} {g o b : Nat} (hb : b < 256) (h : Touch w v g (o + 61) 1024) (m : Nat) : Touch w ((rowSet v g o b (SB b)).drewN m) g (o + 61) 1024 := by
 have hs := SB_lt b
 unfold rowSet
 exact ((((h.setCell _ _ (by omega) (by omega)).setCell _ _ (by omega) (by omega)).setCell _ _ (by omega) (by omega)).setCell _ _ (by omega) (by omega)).drewN m
theorem rows_tab {w : World} {g o : Nat} (h : ∀ b, b < 256 → RowOk w g o b) : Tab w g o :=
 ⟨fun b hb => (h b hb).s, fun c hc => by
  have h1 := (h (UB c) (UB_lt c)).u
  have h2 := (UB_SB ⟨c, hc⟩).2
  simp only at h2
  rw [h2] at h1
  exact h1, fun b hb => (h b hb).m, fun b hb => (h b hb).n⟩
set_option maxHeartbeats 3200000 in
set_option maxRecDepth 100000 in
theorem fillTables_ok (g o : Nat) (w : World) (ht : w.there g o 1085) :
  Calls Tryz.prog 36 #[.pointer (some ⟨g, o, none⟩)] w fun e w' => e = .returned (.tuple #[]) ∧ Touch w w' g (o + 61) 1024 ∧ Tab w' g o := by
 have HT : Hid (w.there g o 1085) := ht
 clear ht
 have hz : SB 0 = 99 := by decide +kernel
 have H0 : Hid (Calls Tryz.prog 61 #[.pointer (some ⟨g, o, none⟩), .int .u8 0, .int .u8 99] w fun e w' => e = .returned (.tuple #[]) ∧ ∃ m, w' = (rowSet w g o 0 99).drewN m) := fillRow_ok g o 0 99 w (by decide) (by decide) HT.out
 go_enter Tryz.func36, Tryz.ntmps36
 go_wp2_with (first | (go_at_call 61; (refine H0.out.mono ?_)))
 rintro e1 w1 ⟨rfl, m1, hw1⟩
 have HI : Hid (Touch w w1 g (o + 61) 1024 ∧ RowOk w1 g o 0) := by
  rw [hw1, ← hz]
  exact ⟨rowSet_touch (by decide) (Touch.refl _ _ _ _) m1, (rowSet_same HT.out (by decide)).drewN m1⟩
 clear hw1 H0
 go_wp2
 go_loopw [2, 3, 6] (fun vp vi i wr => ∃ k : Nat, k ≤ 255 ∧ i = .int .i64 k ∧ vp = .int .u8 (pwT k : Nat) ∧ vi = .int .u8 (ivT k : Nat) ∧ Hid (Touch w wr g (o + 61) 1024 ∧ RowOk wr g o 0 ∧ ∀ j, j < k → RowOk wr g o (pwT j))) (fun _ _ i _ => 255 - (intOf i).toNat)
 case atStart => exact ⟨0, by omega, rfl, rfl, rfl, HI.out.1, HI.out.2, fun j hj => by omega⟩
 case round =>
  obtain ⟨k, hk, rfl, rfl, rfl, HR⟩ := hrel
  by_cases hlt : k < 255
  ·obtain ⟨e1, e2, e3⟩ := pw_step ⟨k, hlt⟩
   simp only at e1 e2 e3
   obtain ⟨p, HP⟩ : ∃ p, Hid (p = pwT k) := ⟨_, rfl⟩
   obtain ⟨v, HV⟩ : ∃ p, Hid (p = ivT k) := ⟨_, rfl⟩
   have hp : p < 256 := by rw [HP.out]; exact pwT_lt k
   have hv : v < 256 := by rw [HV.out]; exact ivT_lt k
   have K1 : Hid (∀ u, Calls Tryz.prog 62 #[.int .u8 (v : Nat)] u fun e u' => e = .returned (.int .u8 (SB p : Nat)) ∧ u' = u) := fun u => (spread_ok v hv u).mono fun e u' ⟨z, _, hz, h1, h2⟩ => ⟨by rw [h1, hz.out, HV.out, e3, HP.out], h2⟩
   have K2 : Hid (Calls Tryz.prog 61 #[.pointer (some ⟨g, o, none⟩), .int .u8 (p : Nat), .int .u8 (SB p : Nat)] wr fun e w' => e = .returned (.tuple #[]) ∧ ∃ m, w' = (rowSet wr g o p (SB p)).drewN m) := fillRow_ok g o p (SB p) wr hp (SB_lt p) (HR.out.1.there _ _ HT.out)
   have K3 : Hid (∀ u, Calls Tryz.prog 63 #[.int .u8 (p : Nat), .int .u8 3] u fun e u' => e = .returned (.int .u8 (pwT (k + 1) : Nat)) ∧ u' = u) := fun u => (times_ok p 3 hp (by decide) u).mono fun e u' ⟨h1, h2⟩ => ⟨by rw [h1, HP.out, e1], h2⟩
   have K4 : Hid (∀ u, Calls Tryz.prog 63 #[.int .u8 (v : Nat), .int .u8 246] u fun e u' => e = .returned (.int .u8 (ivT (k + 1) : Nat)) ∧ u' = u) := fun u => (times_ok v 246 hv (by decide) u).mono fun e u' ⟨h1, h2⟩ => ⟨by rw [h1, HV.out, e2], h2⟩
   clear e1 e2 e3
   obtain ⟨p', HP'⟩ : ∃ p, Hid (p = pwT (k + 1)) := ⟨_, rfl⟩
   obtain ⟨v', HV'⟩ : ∃ p, Hid (p = ivT (k + 1)) := ⟨_, rfl⟩
   rw [← HP'.out] at K3
   rw [← HV'.out] at K4
   rw [← HP.out, ← HV.out]
   go_wp2_with (first | (go_at_call 62; (refine (K1.out _).mono ?_); (rintro e2 w2 ⟨rfl, hw2⟩; obtain rfl := hw2.symm)) | (go_at_call 61; (refine K2.out.mono ?_)))
   rintro e3 w3 ⟨rfl, m3, hw3⟩
   have HR3 : Hid (Touch w w3 g (o + 61) 1024 ∧ RowOk w3 g o 0 ∧ ∀ j, j < k + 1 → RowOk w3 g o (pwT j)) := by
    obtain ⟨r1, r2, r3⟩ := HR.out
    rw [hw3]
    refine ⟨rowSet_touch hp r1 m3, ?_, fun j hj => ?_⟩
    ·by_cases h0 : p = 0
     ·subst h0; exact (rowSet_same (r1.there _ _ HT.out) hp).drewN m3
     ·exact (rowSet_other hp (by decide) h0 r2).drewN m3
    ·by_cases hjk : p = pwT j
     ·rw [← hjk]; exact (rowSet_same (r1.there _ _ HT.out) hp).drewN m3
     ·have hj' : j < k := by
       rcases Nat.lt_or_ge j k with h | h
       ·exact h
       ·exact absurd (show p = pwT j by rw [show j = k by omega]; exact HP.out) hjk
      exact (rowSet_other hp (pwT_lt j) hjk (r3 j hj')).drewN m3
   clear hw3 K1 K2
   go_wp2_with (first | (go_at_call 63; (refine (K3.out _).mono ?_)))
   rintro e4 w4 ⟨rfl, hw4⟩
   obtain rfl := hw4.symm
   go_wp2_with (first | (go_at_call 63; (refine (K4.out _).mono ?_)))
   rintro e5 w5 ⟨rfl, hw5⟩
   obtain rfl := hw5.symm
   go_wp2
   refine ⟨⟨k + 1, by omega, rfl, by rw [HP'.out], by rw [HV'.out], HR3.out⟩, ?_⟩
   simp only [intOf]; omega
  ·obtain rfl : k = 255 := by omega
   go_wp2
   go_end0
   obtain ⟨r1, r2, r3⟩ := HR.out
   refine ⟨rfl, r1, rows_tab (fun b hb => ?_)⟩
   rcases lg_all ⟨b, hb⟩ with h | ⟨h1, h2⟩
   ·simp only at h
    rw [h]
    exact r2
   ·simp only at h1 h2
    have := r3 _ h1
    rw [h2] at this
    exact this
end Go.Proofs.YtgmfiljjogdccabGreatDoor
namespace Go.Proofs.YtgmfiljjogdccabGreatDoor
open Go.RowKit
set_option linter.unusedVariables false
theorem unm_wd (p q r t : Nat) (hp : p < 256) (hq : q < 256) (hr : r < 256) (ht : t < 256) : unmc p q r t =
  wd (((x14 p ^^^ x11 q) ^^^ x13 r) ^^^ x9 t) (((x9 p ^^^ x14 q) ^^^ x11 r) ^^^ x13 t) (((x13 p ^^^ x9 q) ^^^ x14 r) ^^^ x11 t) (((x11 p ^^^ x13 q) ^^^ x9 r) ^^^ x14 t) := by
 unfold unmc UX U8 U16 U24
 rw [wd_xor _ _ _ _ _ _ _ _ (xl9 hp) (xl13 hp) (xl11 hp) (xl14 hq) (xl9 hq) (xl13 hq), wd_xor _ _ _ _ _ _ _ _ (xor_lt8 (xl9 hp) (xl14 hq)) (xor_lt8 (xl13 hp) (xl9 hq)) (xor_lt8 (xl11 hp) (xl13 hq)) (xl11 hr) (xl14 hr) (xl9 hr),
  wd_xor _ _ _ _ _ _ _ _ (xor_lt8 (xor_lt8 (xl9 hp) (xl14 hq)) (xl11 hr)) (xor_lt8 (xor_lt8 (xl13 hp) (xl9 hq)) (xl14 hr)) (xor_lt8 (xor_lt8 (xl11 hp) (xl13 hq)) (xl9 hr)) (xl13 ht) (xl11 ht) (xl14 ht)]
 exact rfl
theorem x2_add4 {a b c d : Nat} (ha : a < 256) (hb : b < 256) (hc : c < 256) (hd : d < 256) : x2 (((a ^^^ b) ^^^ c) ^^^ d) = ((x2 a ^^^ x2 b) ^^^ x2 c) ^^^ x2 d := by
 have h1 : a ^^^ b < 256 := xor_lt8 ha hb
 have h2 : (a ^^^ b) ^^^ c < 256 := xor_lt8 h1 hc
 rw [x2_add h2 hd, x2_add h1 hc, x2_add ha hb]
theorem x3_add4 {a b c d : Nat} (ha : a < 256) (hb : b < 256) (hc : c < 256) (hd : d < 256) : x3 (((a ^^^ b) ^^^ c) ^^^ d) = ((x3 a ^^^ x3 b) ^^^ x3 c) ^^^ x3 d := by
 have h1 : a ^^^ b < 256 := xor_lt8 ha hb
 have h2 : (a ^^^ b) ^^^ c < 256 := xor_lt8 h1 hc
 rw [x3_add h2 hd, x3_add h1 hc, x3_add ha hb]
theorem x9_add4 {a b c d : Nat} (ha : a < 256) (hb : b < 256) (hc : c < 256) (hd : d < 256) : x9 (((a ^^^ b) ^^^ c) ^^^ d) = ((x9 a ^^^ x9 b) ^^^ x9 c) ^^^ x9 d := by
 have h1 : a ^^^ b < 256 := xor_lt8 ha hb
 have h2 : (a ^^^ b) ^^^ c < 256 := xor_lt8 h1 hc
 rw [x9_add h2 hd, x9_add h1 hc, x9_add ha hb]
theorem x11_add4 {a b c d : Nat} (ha : a < 256) (hb : b < 256) (hc : c < 256) (hd : d < 256) : x11 (((a ^^^ b) ^^^ c) ^^^ d) = ((x11 a ^^^ x11 b) ^^^ x11 c) ^^^ x11 d := by
 have h1 : a ^^^ b < 256 := xor_lt8 ha hb
 have h2 : (a ^^^ b) ^^^ c < 256 := xor_lt8 h1 hc
 rw [x11_add h2 hd, x11_add h1 hc, x11_add ha hb]
theorem x13_add4 {a b c d : Nat} (ha : a < 256) (hb : b < 256) (hc : c < 256) (hd : d < 256) : x13 (((a ^^^ b) ^^^ c) ^^^ d) = ((x13 a ^^^ x13 b) ^^^ x13 c) ^^^ x13 d := by
 have h1 : a ^^^ b < 256 := xor_lt8 ha hb
 have h2 : (a ^^^ b) ^^^ c < 256 := xor_lt8 h1 hc
 rw [x13_add h2 hd, x13_add h1 hc, x13_add ha hb]
theorem x14_add4 {a b c d : Nat} (ha : a < 256) (hb : b < 256) (hc : c < 256) (hd : d < 256) : x14 (((a ^^^ b) ^^^ c) ^^^ d) = ((x14 a ^^^ x14 b) ^^^ x14 c) ^^^ x14 d := by
 have h1 : a ^^^ b < 256 := xor_lt8 ha hb
 have h2 : (a ^^^ b) ^^^ c < 256 := xor_lt8 h1 hc
 rw [x14_add h2 hd, x14_add h1 hc, x14_add ha hb]
theorem unm_mc0 (p q r t : Nat) (hp : p < 256) (hq : q < 256) (hr : r < 256) (ht : t < 256) : ((((x14 ((((x2 p) ^^^ (x3 q)) ^^^ r) ^^^ t)) ^^^ (x11 (((p ^^^ (x2 q)) ^^^ (x3 r)) ^^^ t))) ^^^ (x13 (((p ^^^ q) ^^^ (x2 r)) ^^^ (x3 t)))) ^^^ (x9 ((((x3 p) ^^^ q) ^^^ r) ^^^ (x2 t)))) = p := by
 rw [x14_add4 (xl2 hp) (xl3 hq) hr ht, x11_add4 hp (xl2 hq) (xl3 hr) ht, x13_add4 hp hq (xl2 hr) (xl3 ht), x9_add4 (xl3 hp) hq hr (xl2 ht)]
 have e : (((((((x14 (x2 p)) ^^^ (x14 (x3 q))) ^^^ (x14 r)) ^^^ (x14 t)) ^^^ ((((x11 p) ^^^ (x11 (x2 q))) ^^^ (x11 (x3 r))) ^^^ (x11 t))) ^^^ ((((x13 p) ^^^ (x13 q)) ^^^ (x13 (x2 r))) ^^^ (x13 (x3 t)))) ^^^ ((((x9 (x3 p)) ^^^ (x9 q)) ^^^ (x9 r)) ^^^ (x9 (x2 t)))) = (((((((x14 (x2 p)) ^^^ (x11 p)) ^^^ (x13 p)) ^^^ (x9 (x3 p))) ^^^ ((((x14 (x3 q)) ^^^ (x11 (x2 q))) ^^^ (x13 q)) ^^^ (x9 q))) ^^^ ((((x14 r) ^^^ (x11 (x3 r))) ^^^ (x13 (x2 r))) ^^^ (x9 r))) ^^^ ((((x14 t) ^^^ (x11 t)) ^^^ (x13 (x3 t))) ^^^ (x9 (x2 t)))) := by ac_rfl
 rw [e]
 have h0 : ((((x14 (x2 p)) ^^^ (x11 p)) ^^^ (x13 p)) ^^^ (x9 (x3 p))) = p := (by decide +kernel : ∀ p : Fin 256, ((((x14 (x2 p.1)) ^^^ (x11 p.1)) ^^^ (x13 p.1)) ^^^ (x9 (x3 p.1))) = p.1) ⟨p, hp⟩
 have h1 : ((((x14 (x3 q)) ^^^ (x11 (x2 q))) ^^^ (x13 q)) ^^^ (x9 q)) = 0 := (by decide +kernel : ∀ q : Fin 256, ((((x14 (x3 q.1)) ^^^ (x11 (x2 q.1))) ^^^ (x13 q.1)) ^^^ (x9 q.1)) = 0) ⟨q, hq⟩
 have h2 : ((((x14 r) ^^^ (x11 (x3 r))) ^^^ (x13 (x2 r))) ^^^ (x9 r)) = 0 := (by decide +kernel : ∀ r : Fin 256, ((((x14 r.1) ^^^ (x11 (x3 r.1))) ^^^ (x13 (x2 r.1))) ^^^ (x9 r.1)) = 0) ⟨r, hr⟩
 have h3 : ((((x14 t) ^^^ (x11 t)) ^^^ (x13 (x3 t))) ^^^ (x9 (x2 t))) = 0 := (by decide +kernel : ∀ t : Fin 256, ((((x14 t.1) ^^^ (x11 t.1)) ^^^ (x13 (x3 t.1))) ^^^ (x9 (x2 t.1))) = 0) ⟨t, ht⟩
 rw [h0, h1, h2, h3]
 simp
theorem unm_mc1 (p q r t : Nat) (hp : p < 256) (hq : q < 256) (hr : r < 256) (ht : t < 256) : ((((x9 ((((x2 p) ^^^ (x3 q)) ^^^ r) ^^^ t)) ^^^ (x14 (((p ^^^ (x2 q)) ^^^ (x3 r)) ^^^ t))) ^^^ (x11 (((p ^^^ q) ^^^ (x2 r)) ^^^ (x3 t)))) ^^^ (x13 ((((x3 p) ^^^ q) ^^^ r) ^^^ (x2 t)))) = q := by
 rw [x9_add4 (xl2 hp) (xl3 hq) hr ht, x14_add4 hp (xl2 hq) (xl3 hr) ht, x11_add4 hp hq (xl2 hr) (xl3 ht), x13_add4 (xl3 hp) hq hr (xl2 ht)]
 have e : (((((((x9 (x2 p)) ^^^ (x9 (x3 q))) ^^^ (x9 r)) ^^^ (x9 t)) ^^^ ((((x14 p) ^^^ (x14 (x2 q))) ^^^ (x14 (x3 r))) ^^^ (x14 t))) ^^^ ((((x11 p) ^^^ (x11 q)) ^^^ (x11 (x2 r))) ^^^ (x11 (x3 t)))) ^^^ ((((x13 (x3 p)) ^^^ (x13 q)) ^^^ (x13 r)) ^^^ (x13 (x2 t)))) = (((((((x9 (x2 p)) ^^^ (x14 p)) ^^^ (x11 p)) ^^^ (x13 (x3 p))) ^^^ ((((x9 (x3 q)) ^^^ (x14 (x2 q))) ^^^ (x11 q)) ^^^ (x13 q))) ^^^ ((((x9 r) ^^^ (x14 (x3 r))) ^^^ (x11 (x2 r))) ^^^ (x13 r))) ^^^ ((((x9 t) ^^^ (x14 t)) ^^^ (x11 (x3 t))) ^^^ (x13 (x2 t)))) := by ac_rfl
 rw [e]
 have h0 : ((((x9 (x2 p)) ^^^ (x14 p)) ^^^ (x11 p)) ^^^ (x13 (x3 p))) = 0 := (by decide +kernel : ∀ p : Fin 256, ((((x9 (x2 p.1)) ^^^ (x14 p.1)) ^^^ (x11 p.1)) ^^^ (x13 (x3 p.1))) = 0) ⟨p, hp⟩
 have h1 : ((((x9 (x3 q)) ^^^ (x14 (x2 q))) ^^^ (x11 q)) ^^^ (x13 q)) = q := (by decide +kernel : ∀ q : Fin 256, ((((x9 (x3 q.1)) ^^^ (x14 (x2 q.1))) ^^^ (x11 q.1)) ^^^ (x13 q.1)) = q.1) ⟨q, hq⟩
 have h2 : ((((x9 r) ^^^ (x14 (x3 r))) ^^^ (x11 (x2 r))) ^^^ (x13 r)) = 0 := (by decide +kernel : ∀ r : Fin 256, ((((x9 r.1) ^^^ (x14 (x3 r.1))) ^^^ (x11 (x2 r.1))) ^^^ (x13 r.1)) = 0) ⟨r, hr⟩
 have h3 : ((((x9 t) ^^^ (x14 t)) ^^^ (x11 (x3 t))) ^^^ (x13 (x2 t))) = 0 := (by decide +kernel : ∀ t : Fin 256, ((((x9 t.1) ^^^ (x14 t.1)) ^^^ (x11 (x3 t.1))) ^^^ (x13 (x2 t.1))) = 0) ⟨t, ht⟩
 rw [h0, h1, h2, h3]
 simp
theorem unm_mc2 (p q r t : Nat) (hp : p < 256) (hq : q < 256) (hr : r < 256) (ht : t < 256) : ((((x13 ((((x2 p) ^^^ (x3 q)) ^^^ r) ^^^ t)) ^^^ (x9 (((p ^^^ (x2 q)) ^^^ (x3 r)) ^^^ t))) ^^^ (x14 (((p ^^^ q) ^^^ (x2 r)) ^^^ (x3 t)))) ^^^ (x11 ((((x3 p) ^^^ q) ^^^ r) ^^^ (x2 t)))) = r := by
 rw [x13_add4 (xl2 hp) (xl3 hq) hr ht, x9_add4 hp (xl2 hq) (xl3 hr) ht, x14_add4 hp hq (xl2 hr) (xl3 ht), x11_add4 (xl3 hp) hq hr (xl2 ht)]
 have e : (((((((x13 (x2 p)) ^^^ (x13 (x3 q))) ^^^ (x13 r)) ^^^ (x13 t)) ^^^ ((((x9 p) ^^^ (x9 (x2 q))) ^^^ (x9 (x3 r))) ^^^ (x9 t))) ^^^ ((((x14 p) ^^^ (x14 q)) ^^^ (x14 (x2 r))) ^^^ (x14 (x3 t)))) ^^^ ((((x11 (x3 p)) ^^^ (x11 q)) ^^^ (x11 r)) ^^^ (x11 (x2 t)))) = (((((((x13 (x2 p)) ^^^ (x9 p)) ^^^ (x14 p)) ^^^ (x11 (x3 p))) ^^^ ((((x13 (x3 q)) ^^^ (x9 (x2 q))) ^^^ (x14 q)) ^^^ (x11 q))) ^^^ ((((x13 r) ^^^ (x9 (x3 r))) ^^^ (x14 (x2 r))) ^^^ (x11 r))) ^^^ ((((x13 t) ^^^ (x9 t)) ^^^ (x14 (x3 t))) ^^^ (x11 (x2 t)))) := by ac_rfl
 rw [e]
 have h0 : ((((x13 (x2 p)) ^^^ (x9 p)) ^^^ (x14 p)) ^^^ (x11 (x3 p))) = 0 := (by decide +kernel : ∀ p : Fin 256, ((((x13 (x2 p.1)) ^^^ (x9 p.1)) ^^^ (x14 p.1)) ^^^ (x11 (x3 p.1))) = 0) ⟨p, hp⟩
 have h1 : ((((x13 (x3 q)) ^^^ (x9 (x2 q))) ^^^ (x14 q)) ^^^ (x11 q)) = 0 := (by decide +kernel : ∀ q : Fin 256, ((((x13 (x3 q.1)) ^^^ (x9 (x2 q.1))) ^^^ (x14 q.1)) ^^^ (x11 q.1)) = 0) ⟨q, hq⟩
 have h2 : ((((x13 r) ^^^ (x9 (x3 r))) ^^^ (x14 (x2 r))) ^^^ (x11 r)) = r := (by decide +kernel : ∀ r : Fin 256, ((((x13 r.1) ^^^ (x9 (x3 r.1))) ^^^ (x14 (x2 r.1))) ^^^ (x11 r.1)) = r.1) ⟨r, hr⟩
 have h3 : ((((x13 t) ^^^ (x9 t)) ^^^ (x14 (x3 t))) ^^^ (x11 (x2 t))) = 0 := (by decide +kernel : ∀ t : Fin 256, ((((x13 t.1) ^^^ (x9 t.1)) ^^^ (x14 (x3 t.1))) ^^^ (x11 (x2 t.1))) = 0) ⟨t, ht⟩
 rw [h0, h1, h2, h3]
 simp
theorem unm_mc3 (p q r t : Nat) (hp : p < 256) (hq : q < 256) (hr : r < 256) (ht : t < 256) : ((((x11 ((((x2 p) ^^^ (x3 q)) ^^^ r) ^^^ t)) ^^^ (x13 (((p ^^^ (x2 q)) ^^^ (x3 r)) ^^^ t))) ^^^ (x9 (((p ^^^ q) ^^^ (x2 r)) ^^^ (x3 t)))) ^^^ (x14 ((((x3 p) ^^^ q) ^^^ r) ^^^ (x2 t)))) = t := by
 rw [x11_add4 (xl2 hp) (xl3 hq) hr ht, x13_add4 hp (xl2 hq) (xl3 hr) ht, x9_add4 hp hq (xl2 hr) (xl3 ht), x14_add4 (xl3 hp) hq hr (xl2 ht)]
 have e : (((((((x11 (x2 p)) ^^^ (x11 (x3 q))) ^^^ (x11 r)) ^^^ (x11 t)) ^^^ ((((x13 p) ^^^ (x13 (x2 q))) ^^^ (x13 (x3 r))) ^^^ (x13 t))) ^^^ ((((x9 p) ^^^ (x9 q)) ^^^ (x9 (x2 r))) ^^^ (x9 (x3 t)))) ^^^ ((((x14 (x3 p)) ^^^ (x14 q)) ^^^ (x14 r)) ^^^ (x14 (x2 t)))) = (((((((x11 (x2 p)) ^^^ (x13 p)) ^^^ (x9 p)) ^^^ (x14 (x3 p))) ^^^ ((((x11 (x3 q)) ^^^ (x13 (x2 q))) ^^^ (x9 q)) ^^^ (x14 q))) ^^^ ((((x11 r) ^^^ (x13 (x3 r))) ^^^ (x9 (x2 r))) ^^^ (x14 r))) ^^^ ((((x11 t) ^^^ (x13 t)) ^^^ (x9 (x3 t))) ^^^ (x14 (x2 t)))) := by ac_rfl
 rw [e]
 have h0 : ((((x11 (x2 p)) ^^^ (x13 p)) ^^^ (x9 p)) ^^^ (x14 (x3 p))) = 0 := (by decide +kernel : ∀ p : Fin 256, ((((x11 (x2 p.1)) ^^^ (x13 p.1)) ^^^ (x9 p.1)) ^^^ (x14 (x3 p.1))) = 0) ⟨p, hp⟩
 have h1 : ((((x11 (x3 q)) ^^^ (x13 (x2 q))) ^^^ (x9 q)) ^^^ (x14 q)) = 0 := (by decide +kernel : ∀ q : Fin 256, ((((x11 (x3 q.1)) ^^^ (x13 (x2 q.1))) ^^^ (x9 q.1)) ^^^ (x14 q.1)) = 0) ⟨q, hq⟩
 have h2 : ((((x11 r) ^^^ (x13 (x3 r))) ^^^ (x9 (x2 r))) ^^^ (x14 r)) = 0 := (by decide +kernel : ∀ r : Fin 256, ((((x11 r.1) ^^^ (x13 (x3 r.1))) ^^^ (x9 (x2 r.1))) ^^^ (x14 r.1)) = 0) ⟨r, hr⟩
 have h3 : ((((x11 t) ^^^ (x13 t)) ^^^ (x9 (x3 t))) ^^^ (x14 (x2 t))) = t := (by decide +kernel : ∀ t : Fin 256, ((((x11 t.1) ^^^ (x13 t.1)) ^^^ (x9 (x3 t.1))) ^^^ (x14 (x2 t.1))) = t.1) ⟨t, ht⟩
 rw [h0, h1, h2, h3]
 simp
theorem mc_unm0 (p q r t : Nat) (hp : p < 256) (hq : q < 256) (hr : r < 256) (ht : t < 256) : ((((x2 ((((x14 p) ^^^ (x11 q)) ^^^ (x13 r)) ^^^ (x9 t))) ^^^ (x3 ((((x9 p) ^^^ (x14 q)) ^^^ (x11 r)) ^^^ (x13 t)))) ^^^ ((((x13 p) ^^^ (x9 q)) ^^^ (x14 r)) ^^^ (x11 t))) ^^^ ((((x11 p) ^^^ (x13 q)) ^^^ (x9 r)) ^^^ (x14 t))) = p := by
 rw [x2_add4 (xl14 hp) (xl11 hq) (xl13 hr) (xl9 ht), x3_add4 (xl9 hp) (xl14 hq) (xl11 hr) (xl13 ht)]
 have e : (((((((x2 (x14 p)) ^^^ (x2 (x11 q))) ^^^ (x2 (x13 r))) ^^^ (x2 (x9 t))) ^^^ ((((x3 (x9 p)) ^^^ (x3 (x14 q))) ^^^ (x3 (x11 r))) ^^^ (x3 (x13 t)))) ^^^ ((((x13 p) ^^^ (x9 q)) ^^^ (x14 r)) ^^^ (x11 t))) ^^^ ((((x11 p) ^^^ (x13 q)) ^^^ (x9 r)) ^^^ (x14 t))) = (((((((x2 (x14 p)) ^^^ (x3 (x9 p))) ^^^ (x13 p)) ^^^ (x11 p)) ^^^ ((((x2 (x11 q)) ^^^ (x3 (x14 q))) ^^^ (x9 q)) ^^^ (x13 q))) ^^^ ((((x2 (x13 r)) ^^^ (x3 (x11 r))) ^^^ (x14 r)) ^^^ (x9 r))) ^^^ ((((x2 (x9 t)) ^^^ (x3 (x13 t))) ^^^ (x11 t)) ^^^ (x14 t))) := by ac_rfl
 rw [e]
 have h0 : ((((x2 (x14 p)) ^^^ (x3 (x9 p))) ^^^ (x13 p)) ^^^ (x11 p)) = p := (by decide +kernel : ∀ p : Fin 256, ((((x2 (x14 p.1)) ^^^ (x3 (x9 p.1))) ^^^ (x13 p.1)) ^^^ (x11 p.1)) = p.1) ⟨p, hp⟩
 have h1 : ((((x2 (x11 q)) ^^^ (x3 (x14 q))) ^^^ (x9 q)) ^^^ (x13 q)) = 0 := (by decide +kernel : ∀ q : Fin 256, ((((x2 (x11 q.1)) ^^^ (x3 (x14 q.1))) ^^^ (x9 q.1)) ^^^ (x13 q.1)) = 0) ⟨q, hq⟩
 have h2 : ((((x2 (x13 r)) ^^^ (x3 (x11 r))) ^^^ (x14 r)) ^^^ (x9 r)) = 0 := (by decide +kernel : ∀ r : Fin 256, ((((x2 (x13 r.1)) ^^^ (x3 (x11 r.1))) ^^^ (x14 r.1)) ^^^ (x9 r.1)) = 0) ⟨r, hr⟩
 have h3 : ((((x2 (x9 t)) ^^^ (x3 (x13 t))) ^^^ (x11 t)) ^^^ (x14 t)) = 0 := (by decide +kernel : ∀ t : Fin 256, ((((x2 (x9 t.1)) ^^^ (x3 (x13 t.1))) ^^^ (x11 t.1)) ^^^ (x14 t.1)) = 0) ⟨t, ht⟩
 rw [h0, h1, h2, h3]
 simp
theorem mc_unm1 (p q r t : Nat) (hp : p < 256) (hq : q < 256) (hr : r < 256) (ht : t < 256) : (((((((x14 p) ^^^ (x11 q)) ^^^ (x13 r)) ^^^ (x9 t)) ^^^ (x2 ((((x9 p) ^^^ (x14 q)) ^^^ (x11 r)) ^^^ (x13 t)))) ^^^ (x3 ((((x13 p) ^^^ (x9 q)) ^^^ (x14 r)) ^^^ (x11 t)))) ^^^ ((((x11 p) ^^^ (x13 q)) ^^^ (x9 r)) ^^^ (x14 t))) = q := by
 rw [x2_add4 (xl9 hp) (xl14 hq) (xl11 hr) (xl13 ht), x3_add4 (xl13 hp) (xl9 hq) (xl14 hr) (xl11 ht)]
 have e : (((((((x14 p) ^^^ (x11 q)) ^^^ (x13 r)) ^^^ (x9 t)) ^^^ ((((x2 (x9 p)) ^^^ (x2 (x14 q))) ^^^ (x2 (x11 r))) ^^^ (x2 (x13 t)))) ^^^ ((((x3 (x13 p)) ^^^ (x3 (x9 q))) ^^^ (x3 (x14 r))) ^^^ (x3 (x11 t)))) ^^^ ((((x11 p) ^^^ (x13 q)) ^^^ (x9 r)) ^^^ (x14 t))) = (((((((x14 p) ^^^ (x2 (x9 p))) ^^^ (x3 (x13 p))) ^^^ (x11 p)) ^^^ ((((x11 q) ^^^ (x2 (x14 q))) ^^^ (x3 (x9 q))) ^^^ (x13 q))) ^^^ ((((x13 r) ^^^ (x2 (x11 r))) ^^^ (x3 (x14 r))) ^^^ (x9 r))) ^^^ ((((x9 t) ^^^ (x2 (x13 t))) ^^^ (x3 (x11 t))) ^^^ (x14 t))) := by ac_rfl
 rw [e]
 have h0 : ((((x14 p) ^^^ (x2 (x9 p))) ^^^ (x3 (x13 p))) ^^^ (x11 p)) = 0 := (by decide +kernel : ∀ p : Fin 256, ((((x14 p.1) ^^^ (x2 (x9 p.1))) ^^^ (x3 (x13 p.1))) ^^^ (x11 p.1)) = 0) ⟨p, hp⟩
 have h1 : ((((x11 q) ^^^ (x2 (x14 q))) ^^^ (x3 (x9 q))) ^^^ (x13 q)) = q := (by decide +kernel : ∀ q : Fin 256, ((((x11 q.1) ^^^ (x2 (x14 q.1))) ^^^ (x3 (x9 q.1))) ^^^ (x13 q.1)) = q.1) ⟨q, hq⟩
 have h2 : ((((x13 r) ^^^ (x2 (x11 r))) ^^^ (x3 (x14 r))) ^^^ (x9 r)) = 0 := (by decide +kernel : ∀ r : Fin 256, ((((x13 r.1) ^^^ (x2 (x11 r.1))) ^^^ (x3 (x14 r.1))) ^^^ (x9 r.1)) = 0) ⟨r, hr⟩
 have h3 : ((((x9 t) ^^^ (x2 (x13 t))) ^^^ (x3 (x11 t))) ^^^ (x14 t)) = 0 := (by decide +kernel : ∀ t : Fin 256, ((((x9 t.1) ^^^ (x2 (x13 t.1))) ^^^ (x3 (x11 t.1))) ^^^ (x14 t.1)) = 0) ⟨t, ht⟩
 rw [h0, h1, h2, h3]
 simp
theorem mc_unm2 (p q r t : Nat) (hp : p < 256) (hq : q < 256) (hr : r < 256) (ht : t < 256) : (((((((x14 p) ^^^ (x11 q)) ^^^ (x13 r)) ^^^ (x9 t)) ^^^ ((((x9 p) ^^^ (x14 q)) ^^^ (x11 r)) ^^^ (x13 t))) ^^^ (x2 ((((x13 p) ^^^ (x9 q)) ^^^ (x14 r)) ^^^ (x11 t)))) ^^^ (x3 ((((x11 p) ^^^ (x13 q)) ^^^ (x9 r)) ^^^ (x14 t)))) = r := by
 rw [x2_add4 (xl13 hp) (xl9 hq) (xl14 hr) (xl11 ht), x3_add4 (xl11 hp) (xl13 hq) (xl9 hr) (xl14 ht)]
 have e : (((((((x14 p) ^^^ (x11 q)) ^^^ (x13 r)) ^^^ (x9 t)) ^^^ ((((x9 p) ^^^ (x14 q)) ^^^ (x11 r)) ^^^ (x13 t))) ^^^ ((((x2 (x13 p)) ^^^ (x2 (x9 q))) ^^^ (x2 (x14 r))) ^^^ (x2 (x11 t)))) ^^^ ((((x3 (x11 p)) ^^^ (x3 (x13 q))) ^^^ (x3 (x9 r))) ^^^ (x3 (x14 t)))) = (((((((x14 p) ^^^ (x9 p)) ^^^ (x2 (x13 p))) ^^^ (x3 (x11 p))) ^^^ ((((x11 q) ^^^ (x14 q)) ^^^ (x2 (x9 q))) ^^^ (x3 (x13 q)))) ^^^ ((((x13 r) ^^^ (x11 r)) ^^^ (x2 (x14 r))) ^^^ (x3 (x9 r)))) ^^^ ((((x9 t) ^^^ (x13 t)) ^^^ (x2 (x11 t))) ^^^ (x3 (x14 t)))) := by ac_rfl
 rw [e]
 have h0 : ((((x14 p) ^^^ (x9 p)) ^^^ (x2 (x13 p))) ^^^ (x3 (x11 p))) = 0 := (by decide +kernel : ∀ p : Fin 256, ((((x14 p.1) ^^^ (x9 p.1)) ^^^ (x2 (x13 p.1))) ^^^ (x3 (x11 p.1))) = 0) ⟨p, hp⟩
 have h1 : ((((x11 q) ^^^ (x14 q)) ^^^ (x2 (x9 q))) ^^^ (x3 (x13 q))) = 0 := (by decide +kernel : ∀ q : Fin 256, ((((x11 q.1) ^^^ (x14 q.1)) ^^^ (x2 (x9 q.1))) ^^^ (x3 (x13 q.1))) = 0) ⟨q, hq⟩
 have h2 : ((((x13 r) ^^^ (x11 r)) ^^^ (x2 (x14 r))) ^^^ (x3 (x9 r))) = r := (by decide +kernel : ∀ r : Fin 256, ((((x13 r.1) ^^^ (x11 r.1)) ^^^ (x2 (x14 r.1))) ^^^ (x3 (x9 r.1))) = r.1) ⟨r, hr⟩
 have h3 : ((((x9 t) ^^^ (x13 t)) ^^^ (x2 (x11 t))) ^^^ (x3 (x14 t))) = 0 := (by decide +kernel : ∀ t : Fin 256, ((((x9 t.1) ^^^ (x13 t.1)) ^^^ (x2 (x11 t.1))) ^^^ (x3 (x14 t.1))) = 0) ⟨t, ht⟩
 rw [h0, h1, h2, h3]
 simp
theorem mc_unm3 (p q r t : Nat) (hp : p < 256) (hq : q < 256) (hr : r < 256) (ht : t < 256) : ((((x3 ((((x14 p) ^^^ (x11 q)) ^^^ (x13 r)) ^^^ (x9 t))) ^^^ ((((x9 p) ^^^ (x14 q)) ^^^ (x11 r)) ^^^ (x13 t))) ^^^ ((((x13 p) ^^^ (x9 q)) ^^^ (x14 r)) ^^^ (x11 t))) ^^^ (x2 ((((x11 p) ^^^ (x13 q)) ^^^ (x9 r)) ^^^ (x14 t)))) = t := by
 rw [x3_add4 (xl14 hp) (xl11 hq) (xl13 hr) (xl9 ht), x2_add4 (xl11 hp) (xl13 hq) (xl9 hr) (xl14 ht)]
 have e : (((((((x3 (x14 p)) ^^^ (x3 (x11 q))) ^^^ (x3 (x13 r))) ^^^ (x3 (x9 t))) ^^^ ((((x9 p) ^^^ (x14 q)) ^^^ (x11 r)) ^^^ (x13 t))) ^^^ ((((x13 p) ^^^ (x9 q)) ^^^ (x14 r)) ^^^ (x11 t))) ^^^ ((((x2 (x11 p)) ^^^ (x2 (x13 q))) ^^^ (x2 (x9 r))) ^^^ (x2 (x14 t)))) = (((((((x3 (x14 p)) ^^^ (x9 p)) ^^^ (x13 p)) ^^^ (x2 (x11 p))) ^^^ ((((x3 (x11 q)) ^^^ (x14 q)) ^^^ (x9 q)) ^^^ (x2 (x13 q)))) ^^^ ((((x3 (x13 r)) ^^^ (x11 r)) ^^^ (x14 r)) ^^^ (x2 (x9 r)))) ^^^ ((((x3 (x9 t)) ^^^ (x13 t)) ^^^ (x11 t)) ^^^ (x2 (x14 t)))) := by ac_rfl
 rw [e]
 have h0 : ((((x3 (x14 p)) ^^^ (x9 p)) ^^^ (x13 p)) ^^^ (x2 (x11 p))) = 0 := (by decide +kernel : ∀ p : Fin 256, ((((x3 (x14 p.1)) ^^^ (x9 p.1)) ^^^ (x13 p.1)) ^^^ (x2 (x11 p.1))) = 0) ⟨p, hp⟩
 have h1 : ((((x3 (x11 q)) ^^^ (x14 q)) ^^^ (x9 q)) ^^^ (x2 (x13 q))) = 0 := (by decide +kernel : ∀ q : Fin 256, ((((x3 (x11 q.1)) ^^^ (x14 q.1)) ^^^ (x9 q.1)) ^^^ (x2 (x13 q.1))) = 0) ⟨q, hq⟩
 have h2 : ((((x3 (x13 r)) ^^^ (x11 r)) ^^^ (x14 r)) ^^^ (x2 (x9 r))) = 0 := (by decide +kernel : ∀ r : Fin 256, ((((x3 (x13 r.1)) ^^^ (x11 r.1)) ^^^ (x14 r.1)) ^^^ (x2 (x9 r.1))) = 0) ⟨r, hr⟩
 have h3 : ((((x3 (x9 t)) ^^^ (x13 t)) ^^^ (x11 t)) ^^^ (x2 (x14 t))) = t := (by decide +kernel : ∀ t : Fin 256, ((((x3 (x9 t.1)) ^^^ (x13 t.1)) ^^^ (x11 t.1)) ^^^ (x2 (x14 t.1))) = t.1) ⟨t, ht⟩
 rw [h0, h1, h2, h3]
 simp
theorem mcw_bt (x : Nat) : bt0 (mcw x) = ((x2 (bt0 x) ^^^ x3 (bt1 x)) ^^^ bt2 x) ^^^ bt3 x ∧ bt1 (mcw x) = ((bt0 x ^^^ x2 (bt1 x)) ^^^ x3 (bt2 x)) ^^^ bt3 x ∧ bt2 (mcw x) = ((bt0 x ^^^ bt1 x) ^^^ x2 (bt2 x)) ^^^ x3 (bt3 x) ∧ bt3 (mcw x) = ((x3 (bt0 x) ^^^ bt1 x) ^^^ bt2 x) ^^^ x2 (bt3 x) :=
 bt_wd (xor_lt8 (xor_lt8 (xor_lt8 (xl2 (bt0_lt x)) (xl3 (bt1_lt x))) (bt2_lt x)) (bt3_lt x)) (xor_lt8 (xor_lt8 (xor_lt8 (bt0_lt x) (xl2 (bt1_lt x))) (xl3 (bt2_lt x))) (bt3_lt x)) (xor_lt8 (xor_lt8 (xor_lt8 (bt0_lt x) (bt1_lt x)) (xl2 (bt2_lt x))) (xl3 (bt3_lt x))) (xor_lt8 (xor_lt8 (xor_lt8 (xl3 (bt0_lt x)) (bt1_lt x)) (bt2_lt x)) (xl2 (bt3_lt x)))
theorem unmw_bt (x : Nat) : bt0 (unmw x) = ((x14 (bt0 x) ^^^ x11 (bt1 x)) ^^^ x13 (bt2 x)) ^^^ x9 (bt3 x) ∧ bt1 (unmw x) = ((x9 (bt0 x) ^^^ x14 (bt1 x)) ^^^ x11 (bt2 x)) ^^^ x13 (bt3 x) ∧ bt2 (unmw x) = ((x13 (bt0 x) ^^^ x9 (bt1 x)) ^^^ x14 (bt2 x)) ^^^ x11 (bt3 x) ∧ bt3 (unmw x) = ((x11 (bt0 x) ^^^ x13 (bt1 x)) ^^^ x9 (bt2 x)) ^^^ x14 (bt3 x) := by
 unfold unmw
 rw [unm_wd _ _ _ _ (bt0_lt x) (bt1_lt x) (bt2_lt x) (bt3_lt x)]
 have a := bt0_lt x
 have b := bt1_lt x
 have c := bt2_lt x
 have d := bt3_lt x
 exact bt_wd (xor_lt8 (xor_lt8 (xor_lt8 (xl14 a) (xl11 b)) (xl13 c)) (xl9 d)) (xor_lt8 (xor_lt8 (xor_lt8 (xl9 a) (xl14 b)) (xl11 c)) (xl13 d)) (xor_lt8 (xor_lt8 (xor_lt8 (xl13 a) (xl9 b)) (xl14 c)) (xl11 d)) (xor_lt8 (xor_lt8 (xor_lt8 (xl11 a) (xl13 b)) (xl9 c)) (xl14 d))
theorem unmw_mcw {x : Nat} (h : x < 4294967296) : unmw (mcw x) = x := by
 obtain ⟨e0, e1, e2, e3⟩ := mcw_bt x
 have a := bt0_lt x
 have b := bt1_lt x
 have c := bt2_lt x
 have d := bt3_lt x
 have hm := wd_bt (unmw_lt (mcw x))
 obtain ⟨u0, u1, u2, u3⟩ := unmw_bt (mcw x)
 rw [u0, u1, u2, u3, e0, e1, e2, e3, unm_mc0 _ _ _ _ a b c d, unm_mc1 _ _ _ _ a b c d, unm_mc2 _ _ _ _ a b c d, unm_mc3 _ _ _ _ a b c d, wd_bt h] at hm
 exact hm.symm
theorem mcw_lt (x : Nat) : mcw x < 4294967296 := by
 have a := bt0_lt x
 have b := bt1_lt x
 have c := bt2_lt x
 have d := bt3_lt x
 exact wd_lt (xor_lt8 (xor_lt8 (xor_lt8 (xl2 a) (xl3 b)) c) d) (xor_lt8 (xor_lt8 (xor_lt8 a (xl2 b)) (xl3 c)) d) (xor_lt8 (xor_lt8 (xor_lt8 a b) (xl2 c)) (xl3 d)) (xor_lt8 (xor_lt8 (xor_lt8 (xl3 a) b) c) (xl2 d))
theorem mcw_unmw {x : Nat} (h : x < 4294967296) : mcw (unmw x) = x := by
 obtain ⟨e0, e1, e2, e3⟩ := unmw_bt x
 have a := bt0_lt x
 have b := bt1_lt x
 have c := bt2_lt x
 have d := bt3_lt x
 have hm := wd_bt (mcw_lt (unmw x))
 obtain ⟨u0, u1, u2, u3⟩ := mcw_bt (unmw x)
 rw [u0, u1, u2, u3, e0, e1, e2, e3, mc_unm0 _ _ _ _ a b c d, mc_unm1 _ _ _ _ a b c d, mc_unm2 _ _ _ _ a b c d, mc_unm3 _ _ _ _ a b c d, wd_bt h] at hm
 exact hm.symm
theorem mixS_mc (s : W4) : mixS s = mcS (lastS s) := by unfold mixS mcS lastS; simp only [mix_mc]
theorem unmS_mixS (s : W4) : unmS (mixS s) = lastS s := by
 rw [mixS_mc]
 unfold unmS mcS
 obtain ⟨h1, h2, h3, h4⟩ := lastS_ok s
 simp only [unmw_mcw h1, unmw_mcw h2, unmw_mcw h3, unmw_mcw h4]
theorem mcS_unmS (s : W4) (hs : s.ok) : mcS (unmS s) = s := by
 unfold unmS mcS
 obtain ⟨h1, h2, h3, h4⟩ := hs
 simp only [mcw_unmw h1, mcw_unmw h2, mcw_unmw h3, mcw_unmw h4]
theorem itD_iterE {K : Nat → Nat} (hK : ∀ i, K i < 4294967296) (s : W4) (hs : s.ok) (r : Nat) : itD K r (lastS (iterE K r s)) = lastS s := by
 induction r with
 | zero => rw [itD_zero, iterE_zero]
 | succ r ih => rw [itD_succ, stepD, undo_last _ (iterE_ok hK hs _), iterE_succ, addK_addK, unmS_mixS, ih]
/-- Decryption undoes encryption. -/
theorem dec_enc {K : Nat → Nat} (hK : ∀ i, K i < 4294967296) (nr : Nat) (s : W4) (hs : s.ok) : dcW nr K (encW nr K s) = s := by
 rw [dcW, encW, addK_addK, itD_iterE hK _ (addK_ok hK 0 hs), undo_last _ (addK_ok hK 0 hs), addK_addK]
theorem iterE_itD {K : Nat → Nat} (hK : ∀ i, K i < 4294967296) (r : Nat) : ∀ t : W4, t.ok → lastS (iterE K r (undoS (itD K r t))) = t := by
 induction r with
 | zero => intro t ht; rw [itD_zero, iterE_zero]; exact last_undo t ht
 | succ r ih =>
  intro t ht
  have h := ih (stepD K (r + 1) t) (unmS_ok _)
  rw [itD_succ]
  generalize undoS (itD K r (stepD K (r + 1) t)) = y at h ⊢
  rw [iterE_succ, mixS_mc, h, stepD, mcS_unmS _ (addK_ok hK _ (undoS_ok t)), addK_addK, last_undo t ht]
/-- Encryption undoes decryption. -/
theorem enc_dec {K : Nat → Nat} (hK : ∀ i, K i < 4294967296) (nr : Nat) (s : W4) (hs : s.ok) : encW nr K (dcW nr K s) = s := by
 rw [dcW, encW, addK_addK, iterE_itD hK _ _ (addK_ok hK nr hs), addK_addK]
end Go.Proofs.YtgmfiljjogdccabGreatDoor
