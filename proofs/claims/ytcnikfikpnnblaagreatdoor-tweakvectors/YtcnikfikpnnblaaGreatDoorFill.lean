import Derived.Test.YtcnikfikpnnblaaGreatDoorPart11
import Derived.Test.YtcnikfikpnnblaaGreatDoorPart01
namespace Go.Proofs.YtcnikfikpnnblaaGreatDoor
open Go.RowKit
set_option linter.unusedVariables false
/-- The powers of 3, those of its inverse, the logarithm: out of one number each. -/
def pwT (j : Nat) : Nat := Nat.mod (Nat.shiftRight 247704880781559356684414323119999879637317647180040216102211349143305888774923398537951341803642731683984666991564019150676315804531779449815159115664189418245566988781254625896260912026622159780553349108386186142268315007856282091988200171439146255715840100601167723801170608095743514940052926055042184507632911811387723359914440662207451538163404716729158929845121383729837235901114109841630616474463024741216292666125260571984924724184385554713500007113061044175325657975136216706165622836048350080632971744177780693200859426168487707538171671676645432511882666690861394815764438377708986394032816479809277592321 (Nat.mul 8 j)) 256
def ivT (j : Nat) : Nat := Nat.mod (Nat.shiftRight 127727404692115426734198332805968219844573505114629208686901216293690186132462130931675081705992402874744649337146722143913163583643487276303943818893807190013751092806990287370556889600057311714676499800760749547103353651662433367294783190206880884813569237221343399581497263169989195187996008530110587099785212876728548450345268301970899227233349908984604527389233338265073456776979288885037749793268642272576260293033947624555608176220260351415492203342228236466557716880135026471476615524857486394512952861707819425159769229481997196826278555408639803976402068508913166242851432043694978610662015700264484533761 (Nat.mul 8 j)) 256
def lgT (b : Nat) : Nat := Nat.mod (Nat.shiftRight 939374623831894136699086600277250597547650664638770418422125146541797353646788332867483593573384618611044815625336497665827114626705134492515730415652478061620339993830966980270842846318821775850471098591710629241171812800746666233448222972174585295916389942636813666312872914849454985560152530477328703759683306625234997237483834721220409437442253146756845415190424543171129629468776480674528486868811725071010351012234056630775688111116293610821126543142160426617079940511630006820862697466582575257349116925728488930366609138264019883664906661504235885380294353134295748489096855100647154935187045898006656778240 (Nat.mul 8 b)) 256
theorem pwT_lt (j : Nat) : pwT j < 256 := Nat.mod_lt _ (by decide)
theorem ivT_lt (j : Nat) : ivT j < 256 := Nat.mod_lt _ (by decide)
theorem pw_step : ∀ j : Fin 255, tmsN 8 0 (pwT j.1) 3 = pwT (j.1 + 1) ∧ tmsN 8 0 (ivT j.1) 246 = ivT (j.1 + 1) ∧ sprN (ivT j.1) = SB (pwT j.1) := by decide +kernel
theorem lg_all : ∀ b : Fin 256, b.1 = 0 ∨ (lgT b.1 < 255 ∧ pwT (lgT b.1) = b.1) := by decide +kernel
theorem SB_inj {b c : Nat} (hb : b < 256) (hc : c < 256) (h : SB b = SB c) : b = c := by
  have h1 := (UB_SB ⟨b, hb⟩).1
  have h2 := (UB_SB ⟨c, hc⟩).1
  simp only at h1 h2
  rw [← h1, ← h2, h]
/-- The row of a byte stands. -/
structure RowOk (w : World) (g o b : Nat) : Prop where
  s : w.cell? ⟨g, o + 61 + b, none⟩ = some (.int .u8 (SB b : Nat))
  u : w.cell? ⟨g, o + 317 + SB b, none⟩ = some (.int .u8 (b : Nat))
  m : w.cell? ⟨g, o + 573 + b, none⟩ = some (.int .u32 (MX b : Nat))
  n : w.cell? ⟨g, o + 829 + b, none⟩ = some (.int .u32 (UX b : Nat))
theorem cell_other (w : World) (g i j : Nat) (v : Value) (h : i ≠ j) : (w.setCell ⟨g, i, none⟩ v).cell? ⟨g, j, none⟩ = w.cell? ⟨g, j, none⟩ :=
  World.cell?_setCell_other w ⟨g, i, none⟩ ⟨g, j, none⟩ v (fun e => h (by cases e; rfl))
theorem cell_same {w : World} {g o i n : Nat} (v : Value) (ht : w.there g o n) (hi : i < n) : (w.setCell ⟨g, o + i, none⟩ v).cell? ⟨g, o + i, none⟩ = some v :=
  World.cell?_setCell_same' _ _ _ (ht i hi).1
theorem rowSet_same {w : World} {g o b : Nat} (ht : w.there g o 1085) (hb : b < 256) : RowOk (rowSet w g o b (SB b)) g o b := by
  have hs := SB_lt b
  unfold rowSet
  refine ⟨?_, ?_, ?_, ?_⟩
  · rw [cell_other _ _ _ _ _ (by omega), cell_other _ _ _ _ _ (by omega), cell_other _ _ _ _ _ (by omega)]
    have := cell_same (i := 61 + b) (.int .u8 (SB b : Nat)) ht (by omega)
    rw [← Nat.add_assoc] at this
    exact this
  · rw [cell_other _ _ _ _ _ (by omega), cell_other _ _ _ _ _ (by omega)]
    have := cell_same (i := 317 + SB b) (.int .u8 (b : Nat)) (World.there_setCells ht g (o + 61 + b) [.int .u8 (SB b : Nat)]) (by omega)
    rw [← Nat.add_assoc] at this
    exact this
  · rw [cell_other _ _ _ _ _ (by omega)]
    have := cell_same (i := 573 + b) (.int .u32 (MX b : Nat)) (World.there_setCells (World.there_setCells ht g (o + 61 + b) [.int .u8 (SB b : Nat)]) g (o + 317 + SB b) [.int .u8 (b : Nat)]) (by omega)
    rw [← Nat.add_assoc] at this
    exact this
  · have := cell_same (i := 829 + b) (.int .u32 (UX b : Nat)) (World.there_setCells (World.there_setCells (World.there_setCells ht g (o + 61 + b) [.int .u8 (SB b : Nat)]) g (o + 317 + SB b) [.int .u8 (b : Nat)]) g (o + 573 + b) [.int .u32 (MX b : Nat)]) (by omega)
    rw [← Nat.add_assoc] at this
    exact this
theorem rowSet_other {w : World} {g o b c : Nat} (hb : b < 256) (hc : c < 256) (hne : b ≠ c) (h : RowOk w g o c) : RowOk (rowSet w g o b (SB b)) g o c := by
  have hs := SB_lt b
  have hs' := SB_lt c
  have hsn : SB b ≠ SB c := fun e => hne (SB_inj hb hc e)
  unfold rowSet
  refine ⟨?_, ?_, ?_, ?_⟩
  · rw [cell_other _ _ _ _ _ (by omega), cell_other _ _ _ _ _ (by omega), cell_other _ _ _ _ _ (by omega), cell_other _ _ _ _ _ (by omega)]; exact h.s
  · rw [cell_other _ _ _ _ _ (by omega), cell_other _ _ _ _ _ (by omega), cell_other _ _ _ _ _ (by omega), cell_other _ _ _ _ _ (by omega)]; exact h.u
  · rw [cell_other _ _ _ _ _ (by omega), cell_other _ _ _ _ _ (by omega), cell_other _ _ _ _ _ (by omega), cell_other _ _ _ _ _ (by omega)]; exact h.m
  · rw [cell_other _ _ _ _ _ (by omega), cell_other _ _ _ _ _ (by omega), cell_other _ _ _ _ _ (by omega), cell_other _ _ _ _ _ (by omega)]; exact h.n
theorem RowOk.drewN {w : World} {g o b : Nat} (h : RowOk w g o b) (m : Nat) : RowOk (w.drewN m) g o b := ⟨h.s, h.u, h.m, h.n⟩
theorem rowSet_touch {w v : World} {g o b : Nat} (hb : b < 256) (h : Touch w v g (o + 61) 1024) (m : Nat) : Touch w ((rowSet v g o b (SB b)).drewN m) g (o + 61) 1024 := by
  have hs := SB_lt b
  unfold rowSet
  exact ((((h.setCell _ _ (by omega) (by omega)).setCell _ _ (by omega) (by omega)).setCell _ _ (by omega) (by omega)).setCell _ _ (by omega) (by omega)).drewN m
theorem rows_tab {w : World} {g o : Nat} (h : ∀ b, b < 256 → RowOk w g o b) : Tab w g o :=
  ⟨fun b hb => (h b hb).s, fun c hc => by
    have h1 := (h (UB c) (UB_lt c)).u
    have h2 := (UB_SB ⟨c, hc⟩).2
    simp only at h2
    rw [h2] at h1
    exact h1, fun b hb => (h b hb).m, fun b hb => (h b hb).n⟩
set_option maxHeartbeats 3200000 in
set_option maxRecDepth 100000 in
theorem fillTables_ok (g o : Nat) (w : World) (ht : w.there g o 1085) :
    Calls Tryz.prog 105 #[.pointer (some ⟨g, o, none⟩)] w fun e w' => e = .returned (.tuple #[]) ∧ Touch w w' g (o + 61) 1024 ∧ Tab w' g o := by
  have HT : Hid (w.there g o 1085) := ht
  clear ht
  have hz : SB 0 = 99 := by decide +kernel
  have H0 : Hid (Calls Tryz.prog 166 #[.pointer (some ⟨g, o, none⟩), .int .u8 0, .int .u8 99] w fun e w' => e = .returned (.tuple #[]) ∧ ∃ m, w' = (rowSet w g o 0 99).drewN m) := fillRow_ok g o 0 99 w (by decide) (by decide) HT.out
  go_enter Tryz.func105, Tryz.ntmps105
  go_wp2_with (first | (go_at_call 166; (refine H0.out.mono ?_)))
  rintro e1 w1 ⟨rfl, m1, hw1⟩
  have HI : Hid (Touch w w1 g (o + 61) 1024 ∧ RowOk w1 g o 0) := by
    rw [hw1, ← hz]
    exact ⟨rowSet_touch (by decide) (Touch.refl _ _ _ _) m1, (rowSet_same HT.out (by decide)).drewN m1⟩
  clear hw1 H0
  go_wp2
  go_loopw [2, 3, 6] (fun vp vi i wr => ∃ k : Nat, k ≤ 255 ∧ i = .int .i64 k ∧ vp = .int .u8 (pwT k : Nat) ∧ vi = .int .u8 (ivT k : Nat) ∧ Hid (Touch w wr g (o + 61) 1024 ∧ RowOk wr g o 0 ∧ ∀ j, j < k → RowOk wr g o (pwT j))) (fun _ _ i _ => 255 - (intOf i).toNat)
  case atStart => exact ⟨0, by omega, rfl, rfl, rfl, HI.out.1, HI.out.2, fun j hj => by omega⟩
  case round =>
    obtain ⟨k, hk, rfl, rfl, rfl, HR⟩ := hrel
    by_cases hlt : k < 255
    · obtain ⟨e1, e2, e3⟩ := pw_step ⟨k, hlt⟩
      simp only at e1 e2 e3
      obtain ⟨p, HP⟩ : ∃ p, Hid (p = pwT k) := ⟨_, rfl⟩
      obtain ⟨v, HV⟩ : ∃ p, Hid (p = ivT k) := ⟨_, rfl⟩
      have hp : p < 256 := by rw [HP.out]; exact pwT_lt k
      have hv : v < 256 := by rw [HV.out]; exact ivT_lt k
      have K1 : Hid (∀ u, Calls Tryz.prog 167 #[.int .u8 (v : Nat)] u fun e u' => e = .returned (.int .u8 (SB p : Nat)) ∧ u' = u) := fun u => (spread_ok v hv u).mono fun e u' ⟨z, _, hz, h1, h2⟩ => ⟨by rw [h1, hz.out, HV.out, e3, HP.out], h2⟩
      have K2 : Hid (Calls Tryz.prog 166 #[.pointer (some ⟨g, o, none⟩), .int .u8 (p : Nat), .int .u8 (SB p : Nat)] wr fun e w' => e = .returned (.tuple #[]) ∧ ∃ m, w' = (rowSet wr g o p (SB p)).drewN m) := fillRow_ok g o p (SB p) wr hp (SB_lt p) (HR.out.1.there _ _ HT.out)
      have K3 : Hid (∀ u, Calls Tryz.prog 168 #[.int .u8 (p : Nat), .int .u8 3] u fun e u' => e = .returned (.int .u8 (pwT (k + 1) : Nat)) ∧ u' = u) := fun u => (times_ok p 3 hp (by decide) u).mono fun e u' ⟨h1, h2⟩ => ⟨by rw [h1, HP.out, e1], h2⟩
      have K4 : Hid (∀ u, Calls Tryz.prog 168 #[.int .u8 (v : Nat), .int .u8 246] u fun e u' => e = .returned (.int .u8 (ivT (k + 1) : Nat)) ∧ u' = u) := fun u => (times_ok v 246 hv (by decide) u).mono fun e u' ⟨h1, h2⟩ => ⟨by rw [h1, HV.out, e2], h2⟩
      clear e1 e2 e3
      obtain ⟨p', HP'⟩ : ∃ p, Hid (p = pwT (k + 1)) := ⟨_, rfl⟩
      obtain ⟨v', HV'⟩ : ∃ p, Hid (p = ivT (k + 1)) := ⟨_, rfl⟩
      rw [← HP'.out] at K3
      rw [← HV'.out] at K4
      rw [← HP.out, ← HV.out]
      go_wp2_with (first | (go_at_call 167; (refine (K1.out _).mono ?_); (rintro e2 w2 ⟨rfl, hw2⟩; obtain rfl := hw2.symm)) | (go_at_call 166; (refine K2.out.mono ?_)))
      rintro e3 w3 ⟨rfl, m3, hw3⟩
      have HR3 : Hid (Touch w w3 g (o + 61) 1024 ∧ RowOk w3 g o 0 ∧ ∀ j, j < k + 1 → RowOk w3 g o (pwT j)) := by
        obtain ⟨r1, r2, r3⟩ := HR.out
        rw [hw3]
        refine ⟨rowSet_touch hp r1 m3, ?_, fun j hj => ?_⟩
        · by_cases h0 : p = 0
          · subst h0; exact (rowSet_same (r1.there _ _ HT.out) hp).drewN m3
          · exact (rowSet_other hp (by decide) h0 r2).drewN m3
        · by_cases hjk : p = pwT j
          · rw [← hjk]; exact (rowSet_same (r1.there _ _ HT.out) hp).drewN m3
          · have hj' : j < k := by
              rcases Nat.lt_or_ge j k with h | h
              · exact h
              · exact absurd (show p = pwT j by rw [show j = k by omega]; exact HP.out) hjk
            exact (rowSet_other hp (pwT_lt j) hjk (r3 j hj')).drewN m3
      clear hw3 K1 K2
      go_wp2_with (first | (go_at_call 168; (refine (K3.out _).mono ?_)))
      rintro e4 w4 ⟨rfl, hw4⟩
      obtain rfl := hw4.symm
      go_wp2_with (first | (go_at_call 168; (refine (K4.out _).mono ?_)))
      rintro e5 w5 ⟨rfl, hw5⟩
      obtain rfl := hw5.symm
      go_wp2
      refine ⟨⟨k + 1, by omega, rfl, by rw [HP'.out], by rw [HV'.out], HR3.out⟩, ?_⟩
      simp only [intOf]; omega
    · obtain rfl : k = 255 := by omega
      go_wp2
      go_end0
      obtain ⟨r1, r2, r3⟩ := HR.out
      refine ⟨rfl, r1, rows_tab (fun b hb => ?_)⟩
      rcases lg_all ⟨b, hb⟩ with h | ⟨h1, h2⟩
      · simp only at h
        rw [h]
        exact r2
      · simp only at h1 h2
        have := r3 _ h1
        rw [h2] at this
        exact this
end Go.Proofs.YtcnikfikpnnblaaGreatDoor
