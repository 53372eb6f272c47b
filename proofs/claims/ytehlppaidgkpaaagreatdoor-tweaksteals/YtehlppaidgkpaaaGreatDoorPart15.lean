import Derived.Test.YtehlppaidgkpaaaGreatDoorPart13
import Derived.Test.YtehlppaidgkpaaaGreatDoorPart01
import Derived.Deep.CutRange
import Derived.Test.YtehlppaidgkpaaaGreatDoorPart11
import Derived.Test.YtehlppaidgkpaaaGreatDoorBlk
import Derived.Test.YtehlppaidgkpaaaGreatDoorCopy
import Derived.Test.YtehlppaidgkpaaaGreatDoorPart00
import Derived.Laws.OwnMore
namespace Go.Proofs.YtehlppaidgkpaaaGreatDoor
open Go.RowKit
set_option linter.unusedVariables false
/-- The powers of 3, those of its inverse, the logarithm: out of one number each. -/
def pwT (j : Nat) : Nat := Nat.mod (Nat.shiftRight 247704880781559356684414323119999879637317647180040216102211349143305888774923398537951341803642731683984666991564019150676315804531779449815159115664189418245566988781254625896260912026622159780553349108386186142268315007856282091988200171439146255715840100601167723801170608095743514940052926055042184507632911811387723359914440662207451538163404716729158929845121383729837235901114109841630616474463024741216292666125260571984924724184385554713500007113061044175325657975136216706165622836048350080632971744177780693200859426168487707538171671676645432511882666690861394815764438377708986394032816479809277592321 (Nat.mul 8 j)) 256
def ivT (j : Nat) : Nat := Nat.mod (Nat.shiftRight 127727404692115426734198332805968219844573505114629208686901216293690186132462130931675081705992402874744649337146722143913163583643487276303943818893807190013751092806990287370556889600057311714676499800760749547103353651662433367294783190206880884813569237221343399581497263169989195187996008530110587099785212876728548450345268301970899227233349908984604527389233338265073456776979288885037749793268642272576260293033947624555608176220260351415492203342228236466557716880135026471476615524857486394512952861707819425159769229481997196826278555408639803976402068508913166242851432043694978610662015700264484533761 (Nat.mul 8 j)) 256
def lgT (b : Nat) : Nat := Nat.mod (Nat.shiftRight 939374623831894136699086600277250597547650664638770418422125146541797353646788332867483593573384618611044815625336497665827114626705134492515730415652478061620339993830966980270842846318821775850471098591710629241171812800746666233448222972174585295916389942636813666312872914849454985560152530477328703759683306625234997237483834721220409437442253146756845415190424543171129629468776480674528486868811725071010351012234056630775688111116293610821126543142160426617079940511630006820862697466582575257349116925728488930366609138264019883664906661504235885380294353134295748489096855100647154935187045898006656778240 (Nat.mul 8 b)) 256
theorem pwT_lt (j : Nat) : pwT j < 256 := Nat.mod_lt _ (by decide)
theorem ivT_lt (j : Nat) : ivT j < 256 := Nat.mod_lt _ (by decide)
theorem pw_step : ∀ j : Fin 255, tmsN 8 0 (pwT j.1) 3 = pwT (j.1 + 1) ∧ tmsN 8 0 (ivT j.1) 246 = ivT (j.1 + 1) ∧ sprN (ivT j.1) = SB (pwT j.1) := by decide +kernel
theorem lg_all : ∀ b : Fin 256, b.1 = 0 ∨ (lgT b.1 < 255 ∧ pwT (lgT b.1) = b.1) := by decide +kernel
theorem SB_inj {b c : Nat} (hb : b < 256) (hc : c < 256) (h : SB b = SB c) : b = c := by
  have h1 := (UB_SB ⟨b, hb⟩).1
  have h2 := (UB_SB ⟨c, hc⟩).1
  simp only at h1 h2
  rw [← h1, ← h2, h]
/-- The row of a byte stands. -/
structure RowOk (w : World) (g o b : Nat) : Prop where
  s : w.cell? ⟨g, o + 61 + b, none⟩ = some (.int .u8 (SB b : Nat))
  u : w.cell? ⟨g, o + 317 + SB b, none⟩ = some (.int .u8 (b : Nat))
  m : w.cell? ⟨g, o + 573 + b, none⟩ = some (.int .u32 (MX b : Nat))
  n : w.cell? ⟨g, o + 829 + b, none⟩ = some (.int .u32 (UX b : Nat))
theorem cell_other (w : World) (g i j : Nat) (v : Value) (h : i ≠ j) : (w.setCell ⟨g, i, none⟩ v).cell? ⟨g, j, none⟩ = w.cell? ⟨g, j, none⟩ :=
  World.cell?_setCell_other w ⟨g, i, none⟩ ⟨g, j, none⟩ v (fun e => h (by cases e; rfl))
theorem cell_same {w : World} {g o i n : Nat} (v : Value) (ht : w.there g o n) (hi : i < n) : (w.setCell ⟨g, o + i, none⟩ v).cell? ⟨g, o + i, none⟩ = some v :=
  World.cell?_setCell_same' _ _ _ (ht i hi).1
theorem rowSet_same {w : World} {g o b : Nat} (ht : w.there g o 1085) (hb : b < 256) : RowOk (rowSet w g o b (SB b)) g o b := by
  have hs := SB_lt b
  unfold rowSet
  refine ⟨?_, ?_, ?_, ?_⟩
  · rw [cell_other _ _ _ _ _ (by omega), cell_other _ _ _ _ _ (by omega), cell_other _ _ _ _ _ (by omega)]
    have := cell_same (i := 61 + b) (.int .u8 (SB b : Nat)) ht (by omega)
    rw [← Nat.add_assoc] at this
    exact this
  · rw [cell_other _ _ _ _ _ (by omega), cell_other _ _ _ _ _ (by omega)]
    have := cell_same (i := 317 + SB b) (.int .u8 (b : Nat)) (World.there_setCells ht g (o + 61 + b) [.int .u8 (SB b : Nat)]) (by omega)
    rw [← Nat.add_assoc] at this
    exact this
  · rw [cell_other _ _ _ _ _ (by omega)]
    have := cell_same (i := 573 + b) (.int .u32 (MX b : Nat)) (World.there_setCells (World.there_setCells ht g (o + 61 + b) [.int .u8 (SB b : Nat)]) g (o + 317 + SB b) [.int .u8 (b : Nat)]) (by omega)
    rw [← Nat.add_assoc] at this
    exact this
  · have := cell_same (i := 829 + b) (.int .u32 (UX b : Nat)) (World.there_setCells (World.there_setCells (World.there_setCells ht g (o + 61 + b) [.int .u8 (SB b : Nat)]) g (o + 317 + SB b) [.int .u8 (b : Nat)]) g (o + 573 + b) [.int .u32 (MX b : Nat)]) (by omega)
    rw [← Nat.add_assoc] at this
    exact this
theorem rowSet_other {w : World} {g o b c : Nat} (hb : b < 256) (hc : c < 256) (hne : b ≠ c) (h : RowOk w g o c) : RowOk (rowSet w g o b (SB b)) g o c := by
  have hs := SB_lt b
  have hs' := SB_lt c
  have hsn : SB b ≠ SB c := fun e => hne (SB_inj hb hc e)
  unfold rowSet
  refine ⟨?_, ?_, ?_, ?_⟩
  · rw [cell_other _ _ _ _ _ (by omega), cell_other _ _ _ _ _ (by omega), cell_other _ _ _ _ _ (by omega), cell_other _ _ _ _ _ (by omega)]; exact h.s
  · rw [cell_other _ _ _ _ _ (by omega), cell_other _ _ _ _ _ (by omega), cell_other _ _ _ _ _ (by omega), cell_other _ _ _ _ _ (by omega)]; exact h.u
  · rw [cell_other _ _ _ _ _ (by omega), cell_other _ _ _ _ _ (by omega), cell_other _ _ _ _ _ (by omega), cell_other _ _ _ _ _ (by omega)]; exact h.m
  · rw [cell_other _ _ _ _ _ (by omega), cell_other _ _ _ _ _ (by omega), cell_other _ _ _ _ _ (by omega), cell_other _ _ _ _ _ (by omega)]; exact h.n
theorem RowOk.drewN {w : World} {g o b : Nat} (h : RowOk w g o b) (m : Nat) : RowOk (w.drewN m) g o b := ⟨h.s, h.u, h.m, h.n⟩
theorem rowSet_touch {w v : World} {g o b : Nat} (hb : b < 256) (h : Touch w v g (o + 61) 1024) (m : Nat) : Touch w ((rowSet v g o b (SB b)).drewN m) g (o + 61) 1024 := by
  have hs := SB_lt b
  unfold rowSet
  exact ((((h.setCell _ _ (by omega) (by omega)).setCell _ _ (by omega) (by omega)).setCell _ _ (by omega) (by omega)).setCell _ _ (by omega) (by omega)).drewN m
theorem rows_tab {w : World} {g o : Nat} (h : ∀ b, b < 256 → RowOk w g o b) : Tab w g o :=
  ⟨fun b hb => (h b hb).s, fun c hc => by
    have h1 := (h (UB c) (UB_lt c)).u
    have h2 := (UB_SB ⟨c, hc⟩).2
    simp only at h2
    rw [h2] at h1
    exact h1, fun b hb => (h b hb).m, fun b hb => (h b hb).n⟩
set_option maxHeartbeats 3200000 in
set_option maxRecDepth 100000 in
theorem fillTables_ok (g o : Nat) (w : World) (ht : w.there g o 1085) :
    Calls Tryz.prog 75 #[.pointer (some ⟨g, o, none⟩)] w fun e w' => e = .returned (.tuple #[]) ∧ Touch w w' g (o + 61) 1024 ∧ Tab w' g o := by
  have HT : Hid (w.there g o 1085) := ht
  clear ht
  have hz : SB 0 = 99 := by decide +kernel
  have H0 : Hid (Calls Tryz.prog 115 #[.pointer (some ⟨g, o, none⟩), .int .u8 0, .int .u8 99] w fun e w' => e = .returned (.tuple #[]) ∧ ∃ m, w' = (rowSet w g o 0 99).drewN m) := fillRow_ok g o 0 99 w (by decide) (by decide) HT.out
  go_enter Tryz.func75, Tryz.ntmps75
  go_wp2_with (first | (go_at_call 115; (refine H0.out.mono ?_)))
  rintro e1 w1 ⟨rfl, m1, hw1⟩
  have HI : Hid (Touch w w1 g (o + 61) 1024 ∧ RowOk w1 g o 0) := by
    rw [hw1, ← hz]
    exact ⟨rowSet_touch (by decide) (Touch.refl _ _ _ _) m1, (rowSet_same HT.out (by decide)).drewN m1⟩
  clear hw1 H0
  go_wp2
  go_loopw [2, 3, 6] (fun vp vi i wr => ∃ k : Nat, k ≤ 255 ∧ i = .int .i64 k ∧ vp = .int .u8 (pwT k : Nat) ∧ vi = .int .u8 (ivT k : Nat) ∧ Hid (Touch w wr g (o + 61) 1024 ∧ RowOk wr g o 0 ∧ ∀ j, j < k → RowOk wr g o (pwT j))) (fun _ _ i _ => 255 - (intOf i).toNat)
  case atStart => exact ⟨0, by omega, rfl, rfl, rfl, HI.out.1, HI.out.2, fun j hj => by omega⟩
  case round =>
    obtain ⟨k, hk, rfl, rfl, rfl, HR⟩ := hrel
    by_cases hlt : k < 255
    · obtain ⟨e1, e2, e3⟩ := pw_step ⟨k, hlt⟩
      simp only at e1 e2 e3
      obtain ⟨p, HP⟩ : ∃ p, Hid (p = pwT k) := ⟨_, rfl⟩
      obtain ⟨v, HV⟩ : ∃ p, Hid (p = ivT k) := ⟨_, rfl⟩
      have hp : p < 256 := by rw [HP.out]; exact pwT_lt k
      have hv : v < 256 := by rw [HV.out]; exact ivT_lt k
      have K1 : Hid (∀ u, Calls Tryz.prog 116 #[.int .u8 (v : Nat)] u fun e u' => e = .returned (.int .u8 (SB p : Nat)) ∧ u' = u) := fun u => (spread_ok v hv u).mono fun e u' ⟨z, _, hz, h1, h2⟩ => ⟨by rw [h1, hz.out, HV.out, e3, HP.out], h2⟩
      have K2 : Hid (Calls Tryz.prog 115 #[.pointer (some ⟨g, o, none⟩), .int .u8 (p : Nat), .int .u8 (SB p : Nat)] wr fun e w' => e = .returned (.tuple #[]) ∧ ∃ m, w' = (rowSet wr g o p (SB p)).drewN m) := fillRow_ok g o p (SB p) wr hp (SB_lt p) (HR.out.1.there _ _ HT.out)
      have K3 : Hid (∀ u, Calls Tryz.prog 117 #[.int .u8 (p : Nat), .int .u8 3] u fun e u' => e = .returned (.int .u8 (pwT (k + 1) : Nat)) ∧ u' = u) := fun u => (times_ok p 3 hp (by decide) u).mono fun e u' ⟨h1, h2⟩ => ⟨by rw [h1, HP.out, e1], h2⟩
      have K4 : Hid (∀ u, Calls Tryz.prog 117 #[.int .u8 (v : Nat), .int .u8 246] u fun e u' => e = .returned (.int .u8 (ivT (k + 1) : Nat)) ∧ u' = u) := fun u => (times_ok v 246 hv (by decide) u).mono fun e u' ⟨h1, h2⟩ => ⟨by rw [h1, HV.out, e2], h2⟩
      clear e1 e2 e3
      obtain ⟨p', HP'⟩ : ∃ p, Hid (p = pwT (k + 1)) := ⟨_, rfl⟩
      obtain ⟨v', HV'⟩ : ∃ p, Hid (p = ivT (k + 1)) := ⟨_, rfl⟩
      rw [← HP'.out] at K3
      rw [← HV'.out] at K4
      rw [← HP.out, ← HV.out]
      go_wp2_with (first | (go_at_call 116; (refine (K1.out _).mono ?_); (rintro e2 w2 ⟨rfl, hw2⟩; obtain rfl := hw2.symm)) | (go_at_call 115; (refine K2.out.mono ?_)))
      rintro e3 w3 ⟨rfl, m3, hw3⟩
      have HR3 : Hid (Touch w w3 g (o + 61) 1024 ∧ RowOk w3 g o 0 ∧ ∀ j, j < k + 1 → RowOk w3 g o (pwT j)) := by
        obtain ⟨r1, r2, r3⟩ := HR.out
        rw [hw3]
        refine ⟨rowSet_touch hp r1 m3, ?_, fun j hj => ?_⟩
        · by_cases h0 : p = 0
          · subst h0; exact (rowSet_same (r1.there _ _ HT.out) hp).drewN m3
          · exact (rowSet_other hp (by decide) h0 r2).drewN m3
        · by_cases hjk : p = pwT j
          · rw [← hjk]; exact (rowSet_same (r1.there _ _ HT.out) hp).drewN m3
          · have hj' : j < k := by
              rcases Nat.lt_or_ge j k with h | h
              · exact h
              · exact absurd (show p = pwT j by rw [show j = k by omega]; exact HP.out) hjk
            exact (rowSet_other hp (pwT_lt j) hjk (r3 j hj')).drewN m3
      clear hw3 K1 K2
      go_wp2_with (first | (go_at_call 117; (refine (K3.out _).mono ?_)))
      rintro e4 w4 ⟨rfl, hw4⟩
      obtain rfl := hw4.symm
      go_wp2_with (first | (go_at_call 117; (refine (K4.out _).mono ?_)))
      rintro e5 w5 ⟨rfl, hw5⟩
      obtain rfl := hw5.symm
      go_wp2
      refine ⟨⟨k + 1, by omega, rfl, by rw [HP'.out], by rw [HV'.out], HR3.out⟩, ?_⟩
      simp only [intOf]; omega
    · obtain rfl : k = 255 := by omega
      go_wp2
      go_end0
      obtain ⟨r1, r2, r3⟩ := HR.out
      refine ⟨rfl, r1, rows_tab (fun b hb => ?_)⟩
      rcases lg_all ⟨b, hb⟩ with h | ⟨h1, h2⟩
      · simp only at h
        rw [h]
        exact r2
      · simp only at h1 h2
        have := r3 _ h1
        rw [h2] at this
        exact this
end Go.Proofs.YtehlppaidgkpaaaGreatDoor
namespace Go.Proofs.YtehlppaidgkpaaaGreatDoor
open Go.RowKit
set_option linter.unusedVariables false
/-- A cipher's cells, by place. -/
def cipC (nr : Nat) (K : Nat → Nat) (j : Nat) : Value :=
  if j = 0 then .int .i64 (nr : Nat) else if j < 61 then .int .u32 (K (j - 1) : Nat) else if j < 317 then .int .u8 (SB (j - 61) : Nat) else if j < 573 then .int .u8 (UB (j - 317) : Nat)
  else if j < 829 then .int .u32 (MX (j - 573) : Nat) else .int .u32 (UX (j - 829) : Nat)
def cipL (nr : Nat) (K : Nat → Nat) : List Value := (List.range 1085).map (cipC nr K)
theorem cipL_length (nr : Nat) (K : Nat → Nat) : (cipL nr K).length = 1085 := by simp [cipL]
theorem cipL_at (nr : Nat) (K : Nat → Nat) {j : Nat} (h : j < 1085) : (cipL nr K)[j]? = some (cipC nr K j) := by simp [cipL, h]
theorem cipC_one (nr : Nat) (K : Nat → Nat) (j : Nat) : (cipC nr K j).oneCell' = true := by
  unfold cipC
  repeat' split
  all_goals rfl
theorem cipL_one (nr : Nat) (K : Nat → Nat) : (cipL nr K).toArray.all (·.oneCell') = true := all_oneCell_toArray (fun v hv => by
  simp only [cipL, List.mem_map] at hv
  obtain ⟨j, _, rfl⟩ := hv
  exact cipC_one nr K j)
theorem cipL_range {w : World} {g o nr : Nat} {K : Nat → Nat} (h0 : w.cell? ⟨g, o, none⟩ = some (.int .i64 (nr : Nat))) (hw : ∀ i, i < 60 → w.cell? ⟨g, o + 1 + i, none⟩ = some (.int .u32 (K i : Nat))) (ht : Tab w g o) : w.rangeAt g o (cipL nr K) := fun j v hv => by
  have hj : j < 1085 := by
    have := (List.getElem?_eq_some_iff.1 hv).1
    rw [cipL_length] at this
    exact this
  rw [cipL_at nr K hj] at hv
  obtain rfl := Option.some.inj hv
  unfold cipC
  by_cases h1 : j = 0
  · rw [if_pos h1, h1]; exact h0
  rw [if_neg h1]
  by_cases h2 : j < 61
  · rw [if_pos h2]; have := hw (j - 1) (by omega); rw [show o + 1 + (j - 1) = o + j by omega] at this; exact this
  rw [if_neg h2]
  by_cases h3 : j < 317
  · rw [if_pos h3]; have := ht.s (j - 61) (by omega); rw [show o + 61 + (j - 61) = o + j by omega] at this; exact this
  rw [if_neg h3]
  by_cases h4 : j < 573
  · rw [if_pos h4]; have := ht.u (j - 317) (by omega); rw [show o + 317 + (j - 317) = o + j by omega] at this; exact this
  rw [if_neg h4]
  by_cases h5 : j < 829
  · rw [if_pos h5]; have := ht.m (j - 573) (by omega); rw [show o + 573 + (j - 573) = o + j by omega] at this; exact this
  rw [if_neg h5]
  have := ht.n (j - 829) (by omega)
  rw [show o + 829 + (j - 829) = o + j by omega] at this
  exact this
theorem ciph_of_range {w : World} {g o nr : Nat} {K : Nat → Nat} (h : w.rangeAt g o (cipL nr K)) (hg : g < w.heap.size) (h1 : 1 ≤ nr) (h14 : nr ≤ 14) (hK : ∀ i, K i < 4294967296) : Ciph w g o nr K := by
  have e : ∀ j, j < 1085 → w.cell? ⟨g, o + j, none⟩ = some (cipC nr K j) := fun j hj => h j _ (cipL_at nr K hj)
  refine ⟨?_, fun i hi => ?_, hK, ⟨fun b hb => ?_, fun b hb => ?_, fun b hb => ?_, fun b hb => ?_⟩, hg, h1, h14⟩
  · exact e 0 (by omega)
  · have := e (1 + i) (by omega)
    rw [← Nat.add_assoc] at this
    rw [this]
    unfold cipC
    rw [if_neg (by omega), if_pos (by omega), show 1 + i - 1 = i by omega]
  · have := e (61 + b) (by omega)
    rw [← Nat.add_assoc] at this
    rw [this]
    unfold cipC
    rw [if_neg (by omega), if_neg (by omega), if_pos (by omega), show 61 + b - 61 = b by omega]
  · have := e (317 + b) (by omega)
    rw [← Nat.add_assoc] at this
    rw [this]
    unfold cipC
    rw [if_neg (by omega), if_neg (by omega), if_neg (by omega), if_pos (by omega), show 317 + b - 317 = b by omega]
  · have := e (573 + b) (by omega)
    rw [← Nat.add_assoc] at this
    rw [this]
    unfold cipC
    rw [if_neg (by omega), if_neg (by omega), if_neg (by omega), if_neg (by omega), if_pos (by omega), show 573 + b - 573 = b by omega]
  · have := e (829 + b) (by omega)
    rw [← Nat.add_assoc] at this
    rw [this]
    unfold cipC
    rw [if_neg (by omega), if_neg (by omega), if_neg (by omega), if_neg (by omega), if_neg (by omega), show 829 + b - 829 = b by omega]
/-- The schedule. -/
def upd (f : Nat → Nat) (i v : Nat) : Nat → Nat := fun j => if j = i then v else f j
def subw (x : Nat) : Nat := lastw x x x x
def rotw (x : Nat) : Nat := wd (bt1 x) (bt2 x) (bt3 x) (bt0 x)
def rcT (i : Nat) : Nat := Nat.mod (Nat.shiftRight 255515093586639589736961 (Nat.mul 8 i)) 256
def nextW (nk i : Nat) (K : Nat → Nat) : Nat :=
  Nat.xor (K (i - nk)) (if i % nk = 0 then Nat.xor (subw (rotw (K (i - 1)))) (rcT (i / nk - 1) * 16777216) else if nk = 8 ∧ i % 8 = 4 then subw (K (i - 1)) else K (i - 1))
def keyW (key : Nat → Nat) : Nat → Nat → Nat
  | 0 => fun _ => 0
  | i + 1 => upd (keyW key i) (i / 4) (keyW key i (i / 4) * 256 % 4294967296 + key i)
def goW (nk : Nat) (K : Nat → Nat) : Nat → Nat → Nat
  | 0 => K
  | m + 1 => upd (goW nk K m) (nk + m) (nextW nk (nk + m) (goW nk K m))
/-- The words of a key of 4 nk bytes. -/
def schedK (nk : Nat) (key : Nat → Nat) : Nat → Nat := goW nk (keyW key (4 * nk)) (3 * nk + 28)
theorem keyW_lt {key : Nat → Nat} (hk : ∀ i, key i < 256) : ∀ i j, keyW key i j < 4294967296
  | 0, j => by show 0 < _; decide
  | i + 1, j => by
    unfold keyW upd
    have := hk i
    split
    · omega
    · exact keyW_lt hk i j
theorem rcT_lt (i : Nat) : rcT i < 256 := Nat.mod_lt _ (by decide)
theorem subw_lt (x : Nat) : subw x < 4294967296 := lastw_lt _ _ _ _
theorem nextW_lt {nk i : Nat} {K : Nat → Nat} (hK : ∀ j, K j < 4294967296) : nextW nk i K < 4294967296 := by
  unfold nextW
  refine xor_lt32 (hK _) ?_
  have := rcT_lt (i / nk - 1)
  split
  · exact xor_lt32 (subw_lt _) (by omega)
  · split
    · exact subw_lt _
    · exact hK _
theorem goW_lt {nk : Nat} {K : Nat → Nat} (hK : ∀ j, K j < 4294967296) : ∀ m j, goW nk K m j < 4294967296
  | 0, j => hK j
  | m + 1, j => by
    unfold goW upd
    split
    · exact nextW_lt (goW_lt hK m)
    · exact goW_lt hK m j
theorem schedK_lt {nk : Nat} {key : Nat → Nat} (hk : ∀ i, key i < 256) (j : Nat) : schedK nk key j < 4294967296 := goW_lt (keyW_lt hk _) _ j
/-- What stands while a key is scheduled in block B + 1. -/
structure SchAt (w : World) (nr : Nat) (K : Nat → Nat) (u : World) : Prop where
  old : Below w.heap.size w u
  size : w.heap.size + 2 ≤ u.heap.size
  res : u.there w.heap.size 0 1085
  room : u.there (w.heap.size + 1) 0 1085
  rounds : u.cell? ⟨w.heap.size + 1, 0, none⟩ = some (.int .i64 (nr : Nat))
  words : ∀ j, j < 60 → u.cell? ⟨w.heap.size + 1, 1 + j, none⟩ = some (.int .u32 (K j : Nat))
theorem SchAt.touch {w u u' : World} {nr : Nat} {K : Nat → Nat} (h : SchAt w nr K u) (ht : Touch u u' (w.heap.size + 1) 61 1024) : SchAt w nr K u' := by
  have hs := h.size
  refine ⟨h.old.trans (ht.toBelow (Nat.le_succ _) h.old.size), Nat.le_trans h.size ht.size, ?_, ht.there _ _ h.room, (ht.cell 0 (by omega)).trans h.rounds, fun j hj => (ht.cell (1 + j) (by omega)).trans (h.words j hj)⟩
  intro j hj
  have := h.res j hj
  rw [ht.far (p := ⟨w.heap.size, 0 + j, none⟩) (show w.heap.size < _ by omega) (show w.heap.size ≠ _ by omega), ht.farFrozen (p := ⟨w.heap.size, 0 + j, none⟩) (show w.heap.size < _ by omega) (show w.heap.size ≠ _ by omega)]
  exact this
theorem SchAt.set {w u : World} {nr : Nat} {K : Nat → Nat} (h : SchAt w nr K u) (i v : Nat) (hi : i < 60) : SchAt w nr (upd K i v) (u.setCell ⟨w.heap.size + 1, 1 + i, none⟩ (.int .u32 (v : Nat))) := by
  refine ⟨h.old.setCell (Nat.le_succ _) _, ?_, World.there_setCells h.res _ _ [_], World.there_setCells h.room _ _ [_], ?_, fun j hj => ?_⟩
  · have := h.size; simpa [World.setCell] using this
  · rw [cell_other _ _ _ _ _ (by omega)]; exact h.rounds
  · unfold upd
    by_cases hji : j = i
    · subst hji
      rw [if_pos rfl]
      have := h.room (1 + j) (by omega)
      simp only [Nat.zero_add] at this
      exact World.cell?_setCell_same' _ _ _ this.1
    · rw [if_neg hji, cell_other _ _ _ _ _ (by omega)]
      exact h.words j hj
theorem SchAt.drewN {w u : World} {nr : Nat} {K : Nat → Nat} (h : SchAt w nr K u) (m : Nat) : SchAt w nr K (u.drewN m) := ⟨Below.drewN h.old m, h.size, h.res, h.room, h.rounds, h.words⟩
theorem Tab.set {u : World} {g i : Nat} (h : Tab u g 0) (v : Value) (hi : i < 61) : Tab (u.setCell ⟨g, i, none⟩ v) g 0 :=
  ⟨fun b hb => by rw [cell_other _ _ _ _ _ (by omega)]; exact h.s b hb, fun b hb => by rw [cell_other _ _ _ _ _ (by omega)]; exact h.u b hb, fun b hb => by rw [cell_other _ _ _ _ _ (by omega)]; exact h.m b hb, fun b hb => by rw [cell_other _ _ _ _ _ (by omega)]; exact h.n b hb⟩
theorem Tab.drewN {u : World} {g o : Nat} (h : Tab u g o) (m : Nat) : Tab (u.drewN m) g o := ⟨h.s, h.u, h.m, h.n⟩
/-- replace: S of each byte of a word. -/
theorem replace_ok (g o x : Nat) (w : World) (hT : Tab w g o) : Calls Tryz.prog 77 #[.pointer (some ⟨g, o, none⟩), .int .u32 (x : Nat)] w fun e w' => e = .returned (.int .u32 (subw x : Nat)) ∧ ∃ m, w' = w.drewN m := by
  obtain ⟨y, HY⟩ : ∃ y, Hid (y = subw x) := ⟨_, rfl⟩
  have K1 : Hid (Calls Tryz.prog 90 #[.pointer (some ⟨g, o, none⟩), .int .u32 (x : Nat), .int .u32 (x : Nat), .int .u32 (x : Nat), .int .u32 (x : Nat)] w fun e w' => e = .returned (.int .u32 (y : Nat)) ∧ ∃ m, w' = w.drewN m) := by
    rw [HY.out]
    exact last_ok g o x x x x _ _ _ _ w (bt0_lt x) (bt1_lt x) (bt2_lt x) (bt3_lt x) (int_bt0 x) (int_bt1 x) (int_bt2 x) (int_bt3 x) hT
  rw [← HY.out]
  clear hT
  go_enter Tryz.func77, Tryz.ntmps77
  go_wp2_with (first | (go_at_call 90; refine K1.out.mono ?_))
  rintro e1 w1 ⟨rfl, m, hw⟩
  go_wp2
  go_ret
  exact ⟨rfl, m, rfl⟩
theorem wordCount_ok (g o nr : Nat) (w : World) (h : w.cell? ⟨g, o, none⟩ = some (.int .i64 (nr : Nat))) (hn : nr ≤ 14) : Calls Tryz.prog 76 #[.pointer (some ⟨g, o, none⟩)] w fun e w' => e = .returned (.int .i64 (4 * (nr + 1) : Nat)) ∧ w' = w := by
  go_enter Tryz.func76, Tryz.ntmps76
  go_wp2
  go_ret
  exact ⟨ret_int (by omega), rfl⟩
end Go.Proofs.YtehlppaidgkpaaaGreatDoor
namespace Go.Proofs.YtehlppaidgkpaaaGreatDoor
open Go.RowKit
set_option linter.unusedVariables false
/-- The table of the schedule, as it is laid. -/
def RC (w : World) : Prop := ∀ i, i < 10 → w.cell? ⟨1, i, none⟩ = some (.int .u8 (rcT i : Nat))
theorem size68 : (Tryz.prog.info? 121).map (·.size) = some 1085 := by kernel_rfl
theorem zero_size : Tryz.zeroCells121.size = 1085 := by kernel_rfl
theorem built_size (x : Int) : (Tryz.zeroCells121.setIfInBounds 0 (.int .i64 x)).size = 1085 := by rw [Array.size_setIfInBounds]; exact zero_size
theorem zero_one : Tryz.zeroCells121.toList.all (·.oneCell') = true := by kernel_rfl
theorem built_one (x : Int) : (Tryz.zeroCells121.setIfInBounds 0 (.int .i64 x)).all (·.oneCell') = true := by
  refine Array.all_eq_true_iff_forall_mem.2 (fun v hv => ?_)
  rcases Array.mem_or_eq_of_mem_setIfInBounds hv with h | h
  · exact List.all_eq_true.1 zero_one v (by simpa using h)
  · rw [h]; rfl
theorem built_words : Tryz.zeroCells121.toList.take 61 = .int .i64 0 :: List.replicate 60 (.int .u32 0) := by kernel_rfl
theorem built_at (x : Int) (j : Nat) (h : j < 60) : (Tryz.zeroCells121.setIfInBounds 0 (.int .i64 x))[1 + j]? = some (.int .u32 0) := by
  rw [Array.getElem?_setIfInBounds_ne (by omega), ← Array.getElem?_toList]
  have h1 := congrArg (fun l => l[j + 1]?) built_words
  simp only [List.getElem?_take_of_lt (show j + 1 < 61 by omega), List.getElem?_cons_succ, List.getElem?_replicate, if_pos h] at h1
  rw [Nat.add_comm 1 j]
  exact h1
theorem built_zero (x : Int) : (Tryz.zeroCells121.setIfInBounds 0 (.int .i64 x))[0]? = some (.int .i64 x) := by
  rw [Array.getElem?_setIfInBounds_self_of_lt (by rw [zero_size]; decide)]
theorem sch_start (w : World) (nr : Nat) : SchAt w nr (fun _ => 0) (((w.alloc (.cells Tryz.zeroCells121 121)).alloc (.cells Tryz.zeroCells121 121)).setCells (w.heap.size + 1) 0 (Tryz.zeroCells121.setIfInBounds 0 (.int .i64 (nr : Nat))).toList) := by
  have hb := (two_allocs w Tryz.zeroCells121 Tryz.zeroCells121 121 121)
  have h2 := there_new (w.alloc (.cells Tryz.zeroCells121 121)) Tryz.zeroCells121 121 1085 (by rw [zero_size]; exact Nat.le_refl _)
  have h2' : ((w.alloc (.cells Tryz.zeroCells121 121)).alloc (.cells Tryz.zeroCells121 121)).there (w.heap.size + 1) 0 1085 := by simpa using h2
  have h1 : ((w.alloc (.cells Tryz.zeroCells121 121)).alloc (.cells Tryz.zeroCells121 121)).there w.heap.size 0 1085 := World.there_alloc (there_new w Tryz.zeroCells121 121 1085 (by rw [zero_size]; exact Nat.le_refl _)) _
  have hl : (Tryz.zeroCells121.setIfInBounds 0 (.int .i64 (nr : Nat))).toList.length = 1085 := by rw [Array.length_toList]; exact built_size _
  have hr := World.rangeAt_setCells_same ((w.alloc (.cells Tryz.zeroCells121 121)).alloc (.cells Tryz.zeroCells121 121)) (w.heap.size + 1) 0 (Tryz.zeroCells121.setIfInBounds 0 (.int .i64 (nr : Nat))).toList (by rw [hl]; exact h2')
  refine ⟨belowB_setCells _ (Nat.le_succ _) _ _ _ hb.1, by rw [sizeB_setCells]; simp, World.there_setCells h1 _ _ _, World.there_setCells h2' _ _ _, ?_, fun j hj => ?_⟩
  · exact hr 0 _ (by rw [Array.getElem?_toList]; exact built_zero _)
  · have := hr (1 + j) _ (by rw [Array.getElem?_toList]; exact built_at _ j hj)
    rw [Nat.zero_add] at this
    exact this
theorem sch_next {w u : World} {nr nk m ii v : Nat} {K0 : Nat → Nat} (h : SchAt w nr (goW nk K0 m) u ∧ Tab u (w.heap.size + 1) 0) (hi : ii = nk + m) (h60 : ii < 60) (x : Int) (hx : x = (v : Nat)) (hv : v = nextW nk (nk + m) (goW nk K0 m)) :
    SchAt w nr (goW nk K0 (m + 1)) (u.setCell ⟨w.heap.size + 1, 1 + ii, none⟩ (.int .u32 x)) ∧ Tab (u.setCell ⟨w.heap.size + 1, 1 + ii, none⟩ (.int .u32 x)) (w.heap.size + 1) 0 := by
  subst hx hi
  refine ⟨?_, h.2.set _ (by omega)⟩
  have := h.1.set (nk + m) v h60
  rw [hv] at this ⊢
  exact this
set_option maxHeartbeats 6400000 in
set_option maxRecDepth 100000 in
theorem sched_ok (kb ko n cap nk : Nat) (key : Nat → Nat) (w : World) (hnk : nk = 4 ∨ nk = 6 ∨ nk = 8) (hn : n = 4 * nk) (hkb : kb < w.heap.size) (hcell : ∀ i, i < n → w.cell? ⟨kb, ko + i, none⟩ = some (.int .u8 (key i : Nat))) (hkey : ∀ i, key i < 256) (hrc : RC w) (hpos : 1 < w.heap.size) :
    Calls Tryz.prog 52 #[.slice (some ⟨kb, ko, none⟩) n cap] w fun e w' => e = .returned (.agg (cipL (nk + 6) (schedK nk key)).toArray) ∧ Below w.heap.size w w' := by
  have HK : Hid (nk = 4 ∨ nk = 6 ∨ nk = 8) := hnk
  have HN : Hid (n = 4 * nk) := hn
  have HCELL : Hid (∀ i, i < n → w.cell? ⟨kb, ko + i, none⟩ = some (.int .u8 (key i : Nat))) := hcell
  have HKEY : Hid (∀ i, key i < 256) := hkey
  have HRC : Hid (RC w) := hrc
  have HPOS : Hid (1 < w.heap.size) := hpos
  have HKB : Hid (kb < w.heap.size) := hkb
  have hq : ((n : Int)).tdiv 4 = (nk : Nat) := by rw [Int.tdiv_eq_ediv_of_nonneg (by omega)]; omega
  have hnk8 : (nk : Int) ≤ 8 := by omega
  have HST := sch_start w (nk + 6)
  have HSt : Hid (SchAt w (nk + 6) (fun _ => 0) (((w.alloc (.cells Tryz.zeroCells121 121)).alloc (.cells Tryz.zeroCells121 121)).setCells (w.heap.size + 1) 0 (Tryz.zeroCells121.setIfInBounds 0 (.int .i64 ((nk : Int) + 6))).toList)) := by
    have := HST
    rw [show (((nk + 6 : Nat)) : Int) = (nk : Int) + 6 by omega] at this
    exact this
  have HT1 : Hid (((w.alloc (.cells Tryz.zeroCells121 121)).alloc (.cells Tryz.zeroCells121 121)).there (w.heap.size + 1) 0 1085) := by
    have h2 := there_new (w.alloc (.cells Tryz.zeroCells121 121)) Tryz.zeroCells121 121 1085 (by rw [zero_size]; exact Nat.le_refl _)
    show World.there _ _ _ _
    simpa using h2
  clear HST hnk hn hcell hkey hrc hpos hkb
  go_enter Tryz.func52, Tryz.ntmps52
  go_upto_region 3 with (first
    | (refine wpList_store_mid (by rfl) 121 (.tmp 4) (.tmp 14) (by rfl) (w.heap.size + 1) 0 (Tryz.zeroCells121.setIfInBounds 0 (.int .i64 ((nk : Int) + 6))) (by rfl) (by rfl) (by rw [built_size]; exact HT1.out) (by rw [built_size]; exact size68) (built_one _) ?_)
    | fail)
  obtain ⟨w2, HW2⟩ : ∃ w2, Hid (w2 = ((w.alloc (.cells Tryz.zeroCells121 121)).alloc (.cells Tryz.zeroCells121 121)).setCells (w.heap.size + 1) 0 (Tryz.zeroCells121.setIfInBounds 0 (.int .i64 ((nk : Int) + 6))).toList) := ⟨_, rfl⟩
  rw [← HW2.out] at HSt ⊢
  clear HW2 HT1
  generalize Value.agg (Tryz.zeroCells121.setIfInBounds 0 (.int .i64 ((nk : Int) + 6))) = zz
  have KF : Hid (Calls Tryz.prog 75 #[.pointer (some ⟨w.heap.size + 1, 0, none⟩)] w2 fun e w' => e = .returned (.tuple #[]) ∧ Touch w2 w' (w.heap.size + 1) 61 1024 ∧ Tab w' (w.heap.size + 1) 0) := by
    have := fillTables_ok (w.heap.size + 1) 0 w2 HSt.out.room
    show Calls _ _ _ _ _
    simpa using this
  go_wp2_with (first | (go_at_call 75; refine KF.out.mono ?_))
  rintro e3 w3 ⟨rfl, ht3, htab3⟩
  have H3 : Hid (SchAt w (nk + 6) (fun _ => 0) w3 ∧ Tab w3 (w.heap.size + 1) 0) := ⟨HSt.out.touch ht3, htab3⟩
  clear ht3 htab3 KF HSt
  go_wp2
  go_loopw [18] (fun i wr => ∃ k : Nat, k ≤ n ∧ i = .int .i64 k ∧ Hid (SchAt w (nk + 6) (keyW key k) wr ∧ Tab wr (w.heap.size + 1) 0)) (fun i _ => n - (intOf i).toNat)
  case atStart => exact ⟨0, Nat.zero_le _, rfl, H3.out⟩
  case round =>
    obtain ⟨k, hk, rfl, HR⟩ := hrel
    by_cases hlt : k < n
    · have hn32 : n ≤ 32 := by have h1 := HN.out; have h2 := HK.out; omega
      have ck : wr.cell? ⟨kb, ko + k, none⟩ = some (.int .u8 (key k : Nat)) := (HR.out.1.old.cell HKB.out).trans (HCELL.out k hlt)
      have hd4 : ((k : Nat) : Int).tdiv 4 = ((k / 4 : Nat) : Int) := by rw [Int.tdiv_eq_ediv_of_nonneg (by omega)]; omega
      obtain ⟨q, HQ⟩ : ∃ q, Hid (q = k / 4) := ⟨_, rfl⟩
      rw [← HQ.out] at hd4
      have hq60 : ((q : Nat) : Int) < 60 := by rw [HQ.out]; omega
      have hq60' : q < 60 := by omega
      have cw : wr.cell? ⟨w.heap.size + 1, 1 + q, none⟩ = some (.int .u32 (keyW key k q : Nat)) := HR.out.1.words q hq60'
      have cf : wr.frozen? ⟨w.heap.size + 1, 1 + q, none⟩ = false := by
        have := (HR.out.1.room (1 + q) (by omega)).2
        simpa using this
      obtain ⟨x, HX⟩ : ∃ x, Hid (x = keyW key k q) := ⟨_, rfl⟩
      rw [← HX.out] at cw
      go_wp2
      have hxl : x < 4294967296 := by rw [HX.out]; exact keyW_lt HKEY.out _ _
      have hkl := HKEY.out k
      have hv : bits .or .u32 ((x : Int) * 256 % 4294967296) ((key k : Nat) % 4294967296) = ((x * 256 % 4294967296 + key k : Nat) : Int) := by
        have := joins 8 (x * 256 % 4294967296) (key k) (by omega) (by omega) (by omega) (by omega) (by omega)
        rw [show ((x : Int) * 256 % 4294967296) = ((x * 256 % 4294967296 : Nat) : Int) by omega, show (((key k : Nat) : Int) % 4294967296) = ((key k : Nat) : Int) by omega]
        exact this
      refine ⟨⟨k + 1, by omega, rfl, ?_⟩, ?_⟩
      · rw [hv]
        refine ⟨?_, HR.out.2.set _ (by omega)⟩
        have h := HR.out.1.set q (x * 256 % 4294967296 + key k) hq60'
        have e : keyW key (k + 1) = upd (keyW key k) q (x * 256 % 4294967296 + key k) := by
          rw [HX.out, HQ.out]
          exact rfl
        rw [e]
        exact h
      · simp only [intOf]; omega
    · obtain rfl : k = n := by omega
      obtain ⟨K0, HK0⟩ : ∃ K0, Hid (K0 = keyW key k) := ⟨_, rfl⟩
      have HK0l : Hid (∀ j, K0 j < 4294967296) := by show ∀ j, _; rw [HK0.out]; exact keyW_lt HKEY.out _
      rw [← HK0.out] at HR
      clear hlt hk
      go_wp2
      go_loopw [7] (fun i wr => ∃ m : Nat, m ≤ 3 * nk + 28 ∧ i = .int .i64 ((nk + m : Nat) : Int) ∧ Hid (SchAt w (nk + 6) (goW nk K0 m) wr ∧ Tab wr (w.heap.size + 1) 0)) (fun i _ => 4 * nk + 28 - (intOf i).toNat)
      case atStart => exact ⟨0, Nat.zero_le _, rfl, HR.out⟩
      case round =>
        clear HR
        obtain ⟨m, hm, rfl, HR⟩ := hrel
        obtain ⟨ii, HI⟩ : ∃ ii, Hid (ii = nk + m) := ⟨_, rfl⟩
        rw [← HI.out]
        have KW : Hid (Calls Tryz.prog 76 #[.pointer (some ⟨w.heap.size + 1, 0, none⟩)] wr fun e w' => e = .returned (.int .i64 (4 * (nk + 6 + 1) : Nat)) ∧ w' = wr) := wordCount_ok (w.heap.size + 1) 0 (nk + 6) wr HR.out.1.rounds (by have := HK.out; omega)
        obtain ⟨tot, HTOT⟩ : ∃ t, Hid (t = 4 * (nk + 6 + 1)) := ⟨_, rfl⟩
        rw [← HTOT.out] at KW
        by_cases hlt : m < 3 * nk + 28
        · have hit : ((ii : Nat) : Int) < (tot : Nat) := by have h1 := HI.out; have h2 := HTOT.out; omega
          have hnz : 1 ≤ nk := by have := HK.out; omega
          have hi1 : 1 ≤ ii := by have h1 := HI.out; omega
          have hi60 : ii < 60 := by have h1 := HI.out; have := HK.out; omega
          obtain ⟨p, HP⟩ : ∃ p, Hid (p = ii - 1) := ⟨_, rfl⟩
          have hp : ((ii : Nat) : Int) - 1 = (p : Nat) := by have := HP.out; omega
          have hmn : ((ii : Nat) : Int) - (nk : Nat) = (m : Nat) := by have := HI.out; omega
          have hmod : ((ii : Nat) : Int).tmod (nk : Nat) = ((ii % nk : Nat) : Int) := Int.ofNat_tmod ii nk |>.symm
          have hp60 : ((p : Nat) : Int) < 60 := by have := HP.out; omega
          have hm60 : ((m : Nat) : Int) < 60 := by have := HI.out; omega
          have hii60 : ((ii : Nat) : Int) < 60 := by omega
          have cp : wr.cell? ⟨w.heap.size + 1, 1 + p, none⟩ = some (.int .u32 (goW nk K0 m p : Nat)) := HR.out.1.words p (by omega)
          have cm : wr.cell? ⟨w.heap.size + 1, 1 + m, none⟩ = some (.int .u32 (goW nk K0 m m : Nat)) := HR.out.1.words m (by omega)
          have ci : wr.cell? ⟨w.heap.size + 1, 1 + ii, none⟩ = some (.int .u32 (goW nk K0 m ii : Nat)) := HR.out.1.words ii (by omega)
          have cf : wr.frozen? ⟨w.heap.size + 1, 1 + ii, none⟩ = false := by
            have := (HR.out.1.room (1 + ii) (by omega)).2
            simpa using this
          obtain ⟨xp, HXP⟩ : ∃ x, Hid (x = goW nk K0 m p) := ⟨_, rfl⟩
          obtain ⟨xm, HXM⟩ : ∃ x, Hid (x = goW nk K0 m m) := ⟨_, rfl⟩
          obtain ⟨xi, HXI⟩ : ∃ x, Hid (x = goW nk K0 m ii) := ⟨_, rfl⟩
          rw [← HXP.out] at cp
          rw [← HXM.out] at cm
          rw [← HXI.out] at ci
          have HLp : Hid (xp < 4294967296) := by show _ < _; rw [HXP.out]; exact goW_lt HK0l.out _ _
          have HLm : Hid (xm < 4294967296) := by show _ < _; rw [HXM.out]; exact goW_lt HK0l.out _ _
          by_cases hz : ii % nk = 0
          · have hz' : ((ii % nk : Nat) : Int) = 0 := by omega
            rw [hz'] at hmod
            go_wp2_with (first | (go_at_call 76; refine KW.out.mono ?_; rintro e4 w4 ⟨rfl, hw4⟩; obtain rfl := hw4.symm))
            obtain ⟨d, HD⟩ : ∃ d, Hid (d = ii / nk) := ⟨_, rfl⟩
            obtain ⟨e, HE⟩ : ∃ e, Hid (e = d - 1) := ⟨_, rfl⟩
            have hbnd : 1 ≤ d ∧ e < 10 := by
              have h1 := HD.out; have h2 := HE.out; have h3 := HI.out; have h4 := HTOT.out
              rcases HK.out with h | h | h <;> subst h <;> omega
            obtain ⟨hd1, he10⟩ := hbnd
            have hdiv : ((ii : Nat) : Int).tdiv (nk : Nat) = ((d : Nat) : Int) := by rw [HD.out]; exact (Int.ofNat_tdiv ii nk).symm
            have hde : ((d : Nat) : Int) - 1 = ((e : Nat) : Int) := by have := HE.out; omega
            have he10' : ((e : Nat) : Int) < 10 := by omega
            have hd60 : ((d : Nat) : Int) ≤ 60 := by have h1 := HD.out; have h2 : ii / nk ≤ ii := Nat.div_le_self _ _; omega
            have ce : wr.cell? ⟨1, e, none⟩ = some (.int .u8 (rcT e : Nat)) := (HR.out.1.old.cell HPOS.out).trans (HRC.out e he10)
            obtain ⟨rc, HRc⟩ : ∃ r, Hid (r = rcT e) := ⟨_, rfl⟩
            rw [← HRc.out] at ce
            have hrc : rc < 256 := by rw [HRc.out]; exact rcT_lt e
            obtain ⟨y, HY⟩ : ∃ y, Hid (y = rotw xp) := ⟨_, rfl⟩
            obtain ⟨z, HZ⟩ : ∃ z, Hid (z = subw y) := ⟨_, rfl⟩
            have K54 : Hid (∀ u, Calls Tryz.prog 78 #[.int .u32 (xp : Nat), .int .i64 8] u fun e u' => e = .returned (.int .u32 (y : Nat)) ∧ u' = u) := fun u => by
              have h := rotl8 (w := u) (bt0_lt xp) (bt1_lt xp) (bt2_lt xp) (bt3_lt xp)
              rw [wd_bt HLp.out] at h
              rw [HY.out]
              exact h
            have K53 : Hid (∀ u, Tab u (w.heap.size + 1) 0 → Calls Tryz.prog 77 #[.pointer (some ⟨w.heap.size + 1, 0, none⟩), .int .u32 (y : Nat)] u fun e u' => e = .returned (.int .u32 (z : Nat)) ∧ ∃ m, u' = u.drewN m) := fun u hu => by
              rw [HZ.out]
              exact replace_ok (w.heap.size + 1) 0 y u hu
            go_quiet ((first | (go_at_call 78; exact Calls.quiet_of_same (K54.out _)) | (go_at_call 77; exact Calls.quiet_of (K53.out _ (Tab.drewN HR.out.2 _)))))
            go_wp2
            refine ⟨⟨m + 1, by omega, val_eq (by have := HI.out; omega), ?_⟩, ?_⟩
            · have hzl : z < 4294967296 := by rw [HZ.out]; exact subw_lt _
              refine sch_next ⟨HR.out.1.drewN _, Tab.drewN HR.out.2 _⟩ HI.out hi60 _ (v := Nat.xor xm (Nat.xor z (rc * 16777216))) ?_ ?_
              · rw [show ((rc : Int) * 16777216) = ((rc * 16777216 : Nat) : Int) by omega, xor32 _ _ hzl (by omega), xor32 _ _ HLm.out (xor_lt32 hzl (by omega))]
              · unfold nextW
                rw [← HI.out, if_pos hz, show ii - nk = m by have := HI.out; omega, ← HXM.out, ← HP.out, ← HXP.out, ← HY.out, ← HZ.out, ← HD.out, ← HE.out, ← HRc.out]
            · simp only [intOf]; have := HI.out; omega
          · obtain ⟨r, HRr⟩ : ∃ r, Hid (r = ii % nk) := ⟨_, rfl⟩
            rw [← HRr.out] at hmod
            have hr0 : (((r : Nat) : Int) == 0) = false := by have := HRr.out; simp; omega
            obtain ⟨r8, HR8⟩ : ∃ r, Hid (r = ii % 8) := ⟨_, rfl⟩
            have hmod8 : ((ii : Nat) : Int).tmod 8 = ((r8 : Nat) : Int) := by rw [HR8.out]; exact (Int.ofNat_tmod ii 8).symm
            by_cases h8 : nk = 8
            · have hb8 : (((nk : Nat) : Int) == 8) = true := by simp; omega
              have H8 : Hid (nk = 8) := h8
              clear h8
              by_cases h4 : r8 = 4
              · have hb4 : (((r8 : Nat) : Int) == 4) = true := by simp; omega
                have H4 : Hid (r8 = 4) := h4
                clear h4
                obtain ⟨z, HZ⟩ : ∃ z, Hid (z = subw xp) := ⟨_, rfl⟩
                have K53 : Hid (Calls Tryz.prog 77 #[.pointer (some ⟨w.heap.size + 1, 0, none⟩), .int .u32 (xp : Nat)] wr fun e u' => e = .returned (.int .u32 (z : Nat)) ∧ ∃ m, u' = wr.drewN m) := by
                  rw [HZ.out]
                  exact replace_ok (w.heap.size + 1) 0 xp wr HR.out.2
                go_wp2_with (first | (go_at_call 76; refine KW.out.mono ?_; rintro e4 w4 ⟨rfl, hw4⟩; obtain rfl := hw4.symm) | (go_at_call 77; refine K53.out.mono ?_; rintro e5 w5 ⟨rfl, q5, rfl⟩))
                refine ⟨⟨m + 1, by omega, val_eq (by have := HI.out; omega), ?_⟩, ?_⟩
                · have hzl : z < 4294967296 := by rw [HZ.out]; exact subw_lt _
                  refine sch_next ⟨HR.out.1.drewN _, Tab.drewN HR.out.2 _⟩ HI.out hi60 _ (v := Nat.xor xm z) ?_ ?_
                  · rw [xor32 _ _ HLm.out hzl]
                  · unfold nextW
                    rw [← HI.out, if_neg hz, if_pos ⟨H8.out, by rw [← HR8.out]; exact H4.out⟩, show ii - nk = m by have := HI.out; omega, ← HXM.out, ← HP.out, ← HXP.out, ← HZ.out]
                · simp only [intOf]; have := HI.out; omega
              · have hb4 : (((r8 : Nat) : Int) == 4) = false := by simp; omega
                go_wp2_with (first | (go_at_call 76; refine KW.out.mono ?_; rintro e4 w4 ⟨rfl, hw4⟩; obtain rfl := hw4.symm))
                refine ⟨⟨m + 1, by omega, val_eq (by have := HI.out; omega), ?_⟩, ?_⟩
                · refine sch_next HR.out HI.out hi60 _ (v := Nat.xor xm xp) ?_ ?_
                  · rw [xor32 _ _ HLm.out HLp.out]
                  · unfold nextW
                    rw [← HI.out, if_neg hz, if_neg (fun h => h4 (by rw [HR8.out]; exact h.2)), show ii - nk = m by have := HI.out; omega, ← HXM.out, ← HP.out, ← HXP.out]
                · simp only [intOf]; have := HI.out; omega
            · have hb8 : (((nk : Nat) : Int) == 8) = false := by simp; omega
              go_wp2_with (first | (go_at_call 76; refine KW.out.mono ?_; rintro e4 w4 ⟨rfl, hw4⟩; obtain rfl := hw4.symm))
              refine ⟨⟨m + 1, by omega, val_eq (by have := HI.out; omega), ?_⟩, ?_⟩
              · refine sch_next HR.out HI.out hi60 _ (v := Nat.xor xm xp) ?_ ?_
                · rw [xor32 _ _ HLm.out HLp.out]
                · unfold nextW
                  rw [← HI.out, if_neg hz, if_neg (fun h => h8 h.1), show ii - nk = m by have := HI.out; omega, ← HXM.out, ← HP.out, ← HXP.out]
              · simp only [intOf]; have := HI.out; omega
        · have hit : ((tot : Nat) : Int) ≤ ((ii : Nat) : Int) := by have h1 := HI.out; have h2 := HTOT.out; omega
          have hm' : m = 3 * nk + 28 := by omega
          obtain ⟨L, HL⟩ : ∃ L, Hid (L = cipL (nk + 6) (schedK nk key)) := ⟨_, rfl⟩
          have HLr : Hid (wr.rangeAt (w.heap.size + 1) 0 L) := by
            show World.rangeAt _ _ _ _
            rw [HL.out]
            have e : schedK nk key = goW nk K0 m := by rw [HK0.out, hm']; unfold schedK; rw [← HN.out]
            rw [e]
            exact cipL_range HR.out.1.rounds (fun i hi => by rw [Nat.zero_add]; exact HR.out.1.words i hi) HR.out.2
          have HLl : Hid (L.length = 1085) := by show _ = _; rw [HL.out]; exact cipL_length _ _
          have HLo : Hid (L.toArray.all (·.oneCell') = true) := by show _ = _; rw [HL.out]; exact cipL_one _ _
          have HST : Hid (wr.there w.heap.size 0 L.length) := by show World.there _ _ _ _; rw [HLl.out]; exact HR.out.1.res
          have hst : Sem.run Tryz.prog (storeCells ⟨w.heap.size, 0, none⟩ L) wr = .ok () (wr.setCells w.heap.size 0 L) :=
            run_storeCells_cells (P := Tryz.prog) w.heap.size 0 L 0 wr (fun j hj => by have := (HST.out j hj).1; simpa using this) (fun j hj => by have := (HST.out j hj).2; simpa using this) (fun v hv => (Array.all_eq_true_iff_forall_mem.1 HLo.out) v (by simpa using hv))
          clear hm hlt
          go_wp2_with (first
            | (go_at_call 76; refine KW.out.mono ?_; rintro e4 w4 ⟨rfl, hw4⟩; obtain rfl := hw4.symm)
            | (refine wpList_load_mid (by rfl) 121 (.tmp 4) (by rfl) (w.heap.size + 1) 0 (by rfl) L _ HLr.out Tryz.underlying121 rfl (by rw [HLl.out]; exact size68) ?_)
            | fail)
          refine ret_array L Tryz.results52 rfl (World.rangeAt_setCells_same _ _ _ _ HST.out) Tryz.underlying121 rfl (by rw [HLl.out]; exact size68) ⟨by rw [HL.out], belowB_setCells _ (Nat.le_refl _) _ _ _ HR.out.1.old⟩
end Go.Proofs.YtehlppaidgkpaaaGreatDoor
namespace Go.Proofs.YtehlppaidgkpaaaGreatDoor
open Go.RowKit
set_option linter.unusedVariables false
/-- The bytes of a word, the highest first. -/
def btn (x : Nat) : Nat → Nat
  | 0 => bt0 x
  | 1 => bt1 x
  | 2 => bt2 x
  | _ => bt3 x
/-- A schedule's bytes, one behind the other. -/
def rb (K : Nat → Nat) (j : Nat) : Nat := btn (K (j / 4)) (j % 4)
end Go.Proofs.YtehlppaidgkpaaaGreatDoor
namespace Go.Proofs.YtehlppaidgkpaaaGreatDoor
open Go.RowKit
set_option linter.unusedVariables false
/-- S and its inverse as cells. -/
def sbL : List Value := (List.range 256).map fun j => .int .u8 (SB j : Nat)
def ubL : List Value := (List.range 256).map fun j => .int .u8 (UB j : Nat)
theorem sbL_at (j : Nat) (h : j < 256) : sbL[j]? = some (.int .u8 (SB j : Nat)) := by simp [sbL, h]
theorem ubL_at (j : Nat) (h : j < 256) : ubL[j]? = some (.int .u8 (UB j : Nat)) := by simp [ubL, h]
theorem sbL_len : sbL.length = 256 := by simp [sbL]
theorem ubL_len : ubL.length = 256 := by simp [ubL]
theorem sbL_one : sbL.toArray.all (·.oneCell') = true := all_oneCell_toArray (fun v hv => by
  simp only [sbL, List.mem_map] at hv
  obtain ⟨j, _, rfl⟩ := hv
  rfl)
theorem ubL_one : ubL.toArray.all (·.oneCell') = true := all_oneCell_toArray (fun v hv => by
  simp only [ubL, List.mem_map] at hv
  obtain ⟨j, _, rfl⟩ := hv
  rfl)
theorem sbL_range {w : World} {b o : Nat} (h : ∀ j, j < 256 → w.cell? ⟨b, o + j, none⟩ = some (.int .u8 (SB j : Nat))) : w.rangeAt b o sbL := fun j v hv => by
  have hj : j < 256 := by have := (List.getElem?_eq_some_iff.1 hv).1; rw [sbL_len] at this; exact this
  rw [sbL_at j hj] at hv
  rw [h j hj]; exact hv
theorem ubL_range {w : World} {b o : Nat} (h : ∀ j, j < 256 → w.cell? ⟨b, o + j, none⟩ = some (.int .u8 (UB j : Nat))) : w.rangeAt b o ubL := fun j v hv => by
  have hj : j < 256 := by have := (List.getElem?_eq_some_iff.1 hv).1; rw [ubL_len] at this; exact this
  rw [ubL_at j hj] at hv
  rw [h j hj]; exact hv
theorem size65 : (Tryz.prog.info? 118).map (·.size) = some 256 := by kernel_rfl
theorem zsize65 : Tryz.zeroCells118.size = 256 := by kernel_rfl
/-- What stands while the boxes are filled. -/
structure BxS (w : World) (b1 b2 b3 : Nat) (u : World) : Prop where
  old : Below w.heap.size w u
  r0 : u.there w.heap.size 0 256
  r1 : u.there b1 0 256
  s : u.there b2 0 256
  t : u.there b3 0 256
theorem BxS.set {w u : World} {b1 b2 b3 : Nat} (h : BxS w b1 b2 b3 u) (b j : Nat) (v : Value) (hb : w.heap.size ≤ b) : BxS w b1 b2 b3 (u.setCell ⟨b, j, none⟩ v) :=
  ⟨h.old.setCell hb _, World.there_setCells h.r0 _ _ [_], World.there_setCells h.r1 _ _ [_], World.there_setCells h.s _ _ [_], World.there_setCells h.t _ _ [_]⟩
theorem bx_start (w : World) (C : Array Value) (hC : C.size = 256) : BxS w (w.heap.size + 1) (w.heap.size + 1 + 1) (w.heap.size + 1 + 1 + 1) ((((w.alloc (.cells C 118)).alloc (.cells C 118)).alloc (.cells C 118)).alloc (.cells C 118)) := by
  have hl : 256 ≤ C.size := by omega
  have s1 : (w.alloc (.cells C 118)).heap.size = w.heap.size + 1 := by simp
  have s2 : ((w.alloc (.cells C 118)).alloc (.cells C 118)).heap.size = w.heap.size + 1 + 1 := by simp
  have s3 : (((w.alloc (.cells C 118)).alloc (.cells C 118)).alloc (.cells C 118)).heap.size = w.heap.size + 1 + 1 + 1 := by simp
  refine ⟨((((Below.refl _ w).alloc (Nat.le_refl _) _).alloc (by omega) _).alloc (by omega) _).alloc (by omega) _, ?_, ?_, ?_, ?_⟩
  · exact World.there_alloc (World.there_alloc (World.there_alloc (there_new w C 118 256 hl) _) _) _
  · have := there_new (w.alloc (.cells C 118)) C 118 256 hl
    rw [s1] at this
    exact World.there_alloc (World.there_alloc this _) _
  · have := there_new ((w.alloc (.cells C 118)).alloc (.cells C 118)) C 118 256 hl
    rw [s2] at this
    exact World.there_alloc this _
  · have := there_new (((w.alloc (.cells C 118)).alloc (.cells C 118)).alloc (.cells C 118)) C 118 256 hl
    rw [s3] at this
    exact this
theorem there_cell {w : World} {b n : Nat} (h : w.there b 0 n) (j : Nat) (hj : j < n) : ∃ v, w.cell? ⟨b, j, none⟩ = some v := by
  have := (h j hj).1
  rw [Nat.zero_add] at this
  exact Option.isSome_iff_exists.1 this
theorem there_froz {w : World} {b n : Nat} (h : w.there b 0 n) (j : Nat) (hj : j < n) : w.frozen? ⟨b, j, none⟩ = false := by
  have := (h j hj).2
  rw [Nat.zero_add] at this
  exact this
theorem set_same {w : World} {b n j : Nat} (v : Value) (h : w.there b 0 n) (hj : j < n) : (w.setCell ⟨b, j, none⟩ v).cell? ⟨b, j, none⟩ = some v := by
  have := cell_same (i := j) v h hj
  rw [Nat.zero_add] at this
  exact this
theorem results_cell_cell {fn : Func} {p u : Tmp} {ty : TypeId} (h : fn.results = #[.cell p ty, .cell u ty]) (tmps : Array Value) (P : Program) (w : World) :
    (results fn tmps).run P w =
      ((asAddr (tmps.getD p undef)).run P w).andThen fun a w₁ => ((loadVar ty a).run P w₁).andThen fun v w₂ => ((asAddr (tmps.getD u undef)).run P w₂).andThen fun c w₃ => ((loadVar ty c).run P w₃).andThen fun x w₄ => .ok (.tuple #[v, x]) w₄ := by
  simp only [results, h]
  simp [Sem.run_bind, Result.andThen]
theorem ret_cells2 {P : Program} {fn : Func} {p t : Tmp} {ty : TypeId} {d : TypeDesc} {Q : Ending → World → Prop} {tmps : Array Value} {w : World} {b c : Nat} (cs ds : List Value) (h : fn.results = #[.cell p ty, .cell t ty])
    (hp : tmps.getD p undef = .pointer (some ⟨b, 0, none⟩)) (ht : tmps.getD t undef = .pointer (some ⟨c, 0, none⟩)) (hr : w.rangeAt b 0 cs) (hs : w.rangeAt c 0 ds) (hu : P.underlying ty = some d) (hd : d.isRow = true) (hi : (P.info? ty).map (·.size) = some cs.length) (hj : (P.info? ty).map (·.size) = some ds.length)
    (hq : Q (.returned (.tuple #[.agg cs.toArray, .agg ds.toArray])) w) : bodyPost P fn Q .ret ⟨tmps, []⟩ w := by
  refine bodyPost_ret (v := .tuple #[.agg cs.toArray, .agg ds.toArray]) ?_ rfl hq
  rw [results_cell_cell h]
  have hl := run_loadVar_mid (P := P) w b 0 ty cs d hr hu hd hi
  have hm := run_loadVar_mid (P := P) w c 0 ty ds d hs hu hd hj
  simp [hp, ht, asAddr, hl, hm]
set_option maxHeartbeats 1600000 in
set_option maxRecDepth 100000 in
theorem boxes_ok (w : World) : Calls Tryz.prog 112 #[] w fun e w' => e = .returned (.tuple #[.agg sbL.toArray, .agg ubL.toArray]) ∧ Below w.heap.size w w' := by
  have HB := bx_start w Tryz.zeroCells118 zsize65
  go_enter Tryz.func112, Tryz.ntmps112
  go_wp2
  have HI : Hid (BxS w (w.heap.size + 1) (w.heap.size + 1 + 1) (w.heap.size + 1 + 1 + 1) ((((w.alloc (.cells Tryz.zeroCells118 118)).alloc (.cells Tryz.zeroCells118 118)).alloc (.cells Tryz.zeroCells118 118)).alloc (.cells Tryz.zeroCells118 118))) := HB
  clear HB
  generalize ((((w.alloc (.cells Tryz.zeroCells118 118)).alloc (.cells Tryz.zeroCells118 118)).alloc (.cells Tryz.zeroCells118 118)).alloc (.cells Tryz.zeroCells118 118)) = w4 at HI ⊢
  obtain ⟨b3, HB3⟩ : ∃ b, Hid (w.heap.size + 1 + 1 + 1 = b) := ⟨_, rfl⟩
  obtain ⟨b2, HB2⟩ : ∃ b, Hid (w.heap.size + 1 + 1 = b) := ⟨_, rfl⟩
  obtain ⟨b1, HB1⟩ : ∃ b, Hid (w.heap.size + 1 = b) := ⟨_, rfl⟩
  rw [HB3.out, HB2.out, HB1.out] at HI ⊢
  have HBB : Hid (w.heap.size < b1 ∧ b1 < b2 ∧ b2 < b3) := ⟨by have := HB1.out; omega, by have := HB1.out; have := HB2.out; omega, by have := HB2.out; have := HB3.out; omega⟩
  clear HB1 HB2 HB3
  go_loopw [4, 5, 6] (fun b y i wr => ∃ k : Nat, k ≤ 255 ∧ i = .int .i64 k ∧ b = .int .u8 (pwT k : Nat) ∧ y = .int .u8 (ivT k : Nat) ∧ Hid (BxS w b1 b2 b3 wr ∧ ∀ j, j < k → wr.cell? ⟨b2, pwT j, none⟩ = some (.int .u8 (SB (pwT j) : Nat)))) (fun _ _ i _ => 255 - (intOf i).toNat)
  case atStart => exact ⟨0, by omega, rfl, rfl, rfl, HI.out, fun j hj => by omega⟩
  case round =>
    obtain ⟨k, hk, rfl, rfl, rfl, HR⟩ := hrel
    by_cases hlt : k < 255
    · obtain ⟨e1, e2, e3⟩ := pw_step ⟨k, hlt⟩
      simp only at e1 e2 e3
      obtain ⟨p, HP⟩ : ∃ p, Hid (p = pwT k) := ⟨_, rfl⟩
      obtain ⟨v, HV⟩ : ∃ p, Hid (p = ivT k) := ⟨_, rfl⟩
      have hp : p < 256 := by rw [HP.out]; exact pwT_lt k
      have hv : v < 256 := by rw [HV.out]; exact ivT_lt k
      have K1 : Hid (∀ u, Calls Tryz.prog 162 #[.int .i64 (v : Nat)] u fun e u' => e = .returned (.int .u8 (SB p : Nat)) ∧ u' = u) := fun u => (refBits_ok v hv u).mono fun e u' ⟨z, _, hz, h1, h2⟩ => ⟨by rw [h1, hz.out, HV.out, e3, HP.out], h2⟩
      have K3 : Hid (∀ u, Calls Tryz.prog 113 #[.int .u8 (p : Nat), .int .u8 3] u fun e u' => e = .returned (.int .u8 (pwT (k + 1) : Nat)) ∧ u' = u) := fun u => (refTimes p 3 hp (by decide) u).mono fun e u' ⟨h1, h2⟩ => ⟨by rw [h1, HP.out, e1], h2⟩
      have K4 : Hid (∀ u, Calls Tryz.prog 113 #[.int .u8 (v : Nat), .int .u8 246] u fun e u' => e = .returned (.int .u8 (ivT (k + 1) : Nat)) ∧ u' = u) := fun u => (refTimes v 246 hv (by decide) u).mono fun e u' ⟨h1, h2⟩ => ⟨by rw [h1, HV.out, e2], h2⟩
      clear e1 e2 e3
      obtain ⟨p', HP'⟩ : ∃ p, Hid (p = pwT (k + 1)) := ⟨_, rfl⟩
      obtain ⟨v', HV'⟩ : ∃ p, Hid (p = ivT (k + 1)) := ⟨_, rfl⟩
      rw [← HP'.out] at K3
      rw [← HV'.out] at K4
      rw [← HP.out, ← HV.out]
      obtain ⟨c0, hc0⟩ := there_cell HR.out.1.s p hp
      have hf0 := there_froz HR.out.1.s p hp
      have hpi : ((p : Nat) : Int) < 256 := by omega
      have hvi : IntKind.i64.wrap ((v : Nat) : Int) = ((v : Nat) : Int) := wraps_i64 _ (by omega) (by omega)
      go_wp2_with (first | (go_at_call 162; (refine (K1.out _).mono ?_); (rintro e2 w2 ⟨rfl, hw2⟩; obtain rfl := hw2.symm)) | (go_at_call 113; (refine (K3.out _).mono ?_)))
      rintro e4 w4 ⟨rfl, hw4⟩
      obtain rfl := hw4.symm
      go_wp2_with (first | (go_at_call 113; (refine (K4.out _).mono ?_)))
      rintro e5 w5 ⟨rfl, hw5⟩
      obtain rfl := hw5.symm
      go_wp2
      refine ⟨⟨k + 1, by omega, rfl, by rw [HP'.out], by rw [HV'.out], HR.out.1.set _ _ _ (by have := HBB.out; omega), fun j hj => ?_⟩, ?_⟩
      · by_cases hjk : p = pwT j
        · rw [← hjk]; exact set_same _ HR.out.1.s hp
        · have hj' : j < k := by
            rcases Nat.lt_or_ge j k with h | h
            · exact h
            · exact absurd (show p = pwT j by rw [show j = k by omega]; exact HP.out) hjk
          rw [cell_other _ _ _ _ _ hjk]
          exact HR.out.2 j hj'
      · simp only [intOf]; omega
    · obtain rfl : k = 255 := by omega
      clear hlt hk
      obtain ⟨p, HP⟩ : ∃ p, Hid (p = pwT 255) := ⟨_, rfl⟩
      obtain ⟨v, HV⟩ : ∃ p, Hid (p = ivT 255) := ⟨_, rfl⟩
      rw [← HP.out, ← HV.out]
      have K1 : Hid (∀ u, Calls Tryz.prog 162 #[.int .i64 0] u fun e u' => e = .returned (.int .u8 (SB 0 : Nat)) ∧ u' = u) := fun u => (refBits_ok 0 (by decide) u).mono fun e u' ⟨z, _, hz, h1, h2⟩ => ⟨by rw [h1, hz.out]; exact congrArg (fun n : Nat => Ending.returned (.int .u8 (n : Nat))) (by decide +kernel : sprN 0 = SB 0), h2⟩
      obtain ⟨z0, HZ0⟩ : ∃ p, Hid (p = SB 0) := ⟨_, rfl⟩
      rw [← HZ0.out] at K1
      obtain ⟨c0, hc0⟩ := there_cell HR.out.1.s 0 (by decide)
      have hf0 := there_froz HR.out.1.s 0 (by decide)
      go_wp2_with (first | (go_at_call 162; (refine (K1.out _).mono ?_); (rintro e2 w2 ⟨rfl, hw2⟩; obtain rfl := hw2.symm)))
      have H2 : Hid (BxS w b1 b2 b3 (wr.setCell ⟨b2, 0, none⟩ (.int .u8 (z0 : Nat))) ∧ ∀ j, j < 256 → (wr.setCell ⟨b2, 0, none⟩ (.int .u8 (z0 : Nat))).cell? ⟨b2, j, none⟩ = some (.int .u8 (SB j : Nat))) := by
        refine ⟨HR.out.1.set _ _ _ (by have := HBB.out; omega), fun j hj => ?_⟩
        by_cases h0 : j = 0
        · subst h0; rw [HZ0.out]; exact set_same _ HR.out.1.s (by decide)
        · rw [cell_other _ _ _ _ _ (fun h => h0 h.symm)]
          rcases lg_all ⟨j, hj⟩ with h | ⟨h1, h2⟩
          · exact absurd h h0
          · simp only at h1 h2
            have := HR.out.2 _ h1
            rw [h2] at this
            exact this
      clear HR hc0 hf0 K1
      generalize wr.setCell ⟨b2, 0, none⟩ (.int .u8 (z0 : Nat)) = w5 at H2 ⊢
      go_loopw [7] (fun i wr => ∃ k : Nat, k ≤ 256 ∧ i = .int .i64 k ∧ Hid (BxS w b1 b2 b3 wr ∧ (∀ j, j < 256 → wr.cell? ⟨b2, j, none⟩ = some (.int .u8 (SB j : Nat))) ∧ ∀ j, j < k → wr.cell? ⟨b3, SB j, none⟩ = some (.int .u8 (j : Nat)))) (fun i _ => 256 - (intOf i).toNat)
      case atStart => exact ⟨0, by omega, rfl, H2.out.1, H2.out.2, fun j hj => by omega⟩
      case round =>
        obtain ⟨k, hk, rfl, HR⟩ := hrel
        by_cases hlt : k < 256
        · have ck := HR.out.2.1 k hlt
          obtain ⟨q, HQ⟩ : ∃ q, Hid (q = SB k) := ⟨_, rfl⟩
          rw [← HQ.out] at ck
          have hq : q < 256 := by rw [HQ.out]; exact SB_lt k
          have hqi : ((q : Nat) : Int) < 256 := by omega
          have hki : ((k : Nat) : Int) < 256 := by omega
          obtain ⟨c1, hc1⟩ := there_cell HR.out.1.t q hq
          have hf1 := there_froz HR.out.1.t q hq
          have hm : ((k : Nat) : Int) % 256 = ((k : Nat) : Int) := by omega
          go_wp2
          refine ⟨⟨k + 1, by omega, rfl, HR.out.1.set _ _ _ (by have := HBB.out; omega), fun j hj => ?_, fun j hj => ?_⟩, ?_⟩
          · rw [World.cell?_setCell_far _ _ _ _ (by have := HBB.out; show b3 ≠ b2; omega)]
            exact HR.out.2.1 j hj
          · by_cases hjk : j = k
            · subst hjk; rw [HQ.out] at hq ⊢; exact set_same _ HR.out.1.t hq
            · rw [cell_other _ _ _ _ _ (fun h => hjk (SB_inj (by omega) hlt (h.symm.trans HQ.out)))]
              exact HR.out.2.2 j (by omega)
          · simp only [intOf]; omega
        · obtain rfl : k = 256 := by omega
          have RS : Hid (wr.rangeAt b2 0 sbL) := sbL_range (fun j hj => by rw [Nat.zero_add]; exact HR.out.2.1 j hj)
          have RU : Hid (wr.rangeAt b3 0 ubL) := ubL_range (fun j hj => by
            rw [Nat.zero_add]
            have := HR.out.2.2 (UB j) (UB_lt j)
            rw [(UB_SB ⟨j, hj⟩).2] at this
            exact this)
          clear hlt hk H2
          go_wp2
          obtain ⟨SL, HSL⟩ : ∃ L, Hid (L = sbL) := ⟨_, rfl⟩
          obtain ⟨UL, HUL⟩ : ∃ L, Hid (L = ubL) := ⟨_, rfl⟩
          rw [← HSL.out] at RS
          rw [← HUL.out] at RU
          have HSl : Hid (SL.toArray.size = 256) := by show _ = _; rw [HSL.out]; exact sbL_len
          have HUl : Hid (UL.toArray.size = 256) := by show _ = _; rw [HUL.out]; exact ubL_len
          have HSo : Hid (SL.toArray.all (·.oneCell') = true) := by show _ = _; rw [HSL.out]; exact sbL_one
          have HUo : Hid (UL.toArray.all (·.oneCell') = true) := by show _ = _; rw [HUL.out]; exact ubL_one
          have hS0 : ∀ p : Addr, b2 ≤ p.block → wr.drew.cell? p = wr.cell? p := fun p _ => rfl
          have G2 : Hid (∀ u : World, (∀ p : Addr, b2 ≤ p.block → u.cell? p = wr.cell? p) → u.rangeAt b2 0 SL) := fun u hu j v hv => (hu _ (Nat.le_refl _)).trans (RS.out j v hv)
          have G3 : Hid (∀ u : World, (∀ p : Addr, b2 ≤ p.block → u.cell? p = wr.cell? p) → u.rangeAt b3 0 UL) := fun u hu j v hv => (hu _ (Nat.le_of_lt HBB.out.2.2)).trans (RU.out j v hv)
          have HT0 : Hid (wr.drew.there w.heap.size 0 SL.toArray.size) := by show World.there _ _ _ _; rw [HSl.out]; exact (World.there_drew _ _ _ _).2 HR.out.1.r0
          have HT1 : Hid (wr.drew.there b1 0 UL.toArray.size) := by show World.there _ _ _ _; rw [HUl.out]; exact (World.there_drew _ _ _ _).2 HR.out.1.r1
          have s65a : Hid ((Tryz.prog.info? 118).map (·.size) = some SL.toArray.size) := by show _ = _; rw [HSl.out]; exact size65
          have s65b : Hid ((Tryz.prog.info? 118).map (·.size) = some UL.toArray.size) := by show _ = _; rw [HUl.out]; exact size65
          refine wp_region_noPanic ?_
          refine wp_region_held_drew (S := fun u => ∀ p : Addr, b2 ≤ p.block → u.cell? p = wr.cell? p) (by kernel_rfl) (hS0) (fun _ => ?_)
          refine takeH_at 0 33 (.agg SL.toArray) rfl rfl (by kernel_rfl) (by kernel_rfl) (by kernel_rfl) (fun _ _ _ h => h) (hS0) (yieldsIf_load_mid (by kernel_rfl) 118 (.tmp 2) rfl b2 0 rfl SL _ (fun u hu => G2.out u hu) Tryz.underlying118 rfl s65a.out) ?_
          simp only [List.setIfInBounds_toArray, List.set_cons_zero, List.set_cons_succ]
          refine takeH_at 1 34 (.agg UL.toArray) rfl rfl (by kernel_rfl) (by kernel_rfl) (by kernel_rfl) (fun _ _ _ h => h) (hS0) (yieldsIf_load_mid (by kernel_rfl) 118 (.tmp 3) rfl b3 0 rfl UL _ (fun u hu => G3.out u hu) Tryz.underlying118 rfl s65b.out) ?_
          simp only [List.setIfInBounds_toArray, List.set_cons_zero, List.set_cons_succ]
          refine wpAnyH_ready (rs := [2]) (by kernel_rfl) (by simp) ?_
          refine AllReadyH.cons rfl (fun Kx hK => ?_) AllReadyH.nil
          rw [if_pos (by kernel_rfl)]
          refine wp_store_mid 118 (.tmp 0) (.tmp 33) rfl w.heap.size 0 SL.toArray rfl rfl HT0.out s65a.out HSo.out ?_
          have hS1 : ∀ p : Addr, b2 ≤ p.block → (wr.drew.setCells w.heap.size 0 SL).cell? p = wr.cell? p := fun p hp => (World.cell?_setCells_out _ _ _ _ _ (fun e => by have := HBB.out; omega)).trans (hS0 p hp)
          refine hK.out _ _ hS1 (fun _ => ?_)
          clear hK Kx
          try simp only [Act.put]
          refine wpAnyH_ready (rs := [3]) (by kernel_rfl) (by simp) ?_
          refine AllReadyH.cons rfl (fun Kx hK => ?_) AllReadyH.nil
          rw [if_pos (by kernel_rfl)]
          refine wp_store_mid 118 (.tmp 1) (.tmp 34) rfl b1 0 UL.toArray rfl rfl (World.there_setCells HT1.out _ _ _) s65b.out HUo.out ?_
          have hS2 : ∀ p : Addr, b2 ≤ p.block → ((wr.drew.setCells w.heap.size 0 SL).setCells b1 0 UL).cell? p = wr.cell? p := fun p hp => (World.cell?_setCells_out _ _ _ _ _ (fun e => by have := HBB.out; omega)).trans (hS1 p hp)
          refine hK.out _ _ hS2 (fun _ => ?_)
          clear hK Kx
          refine wpAnyH_done (by kernel_rfl) ?_ _
          refine NoPanic.normal ?_
          have hlast : Hid (((wr.drew.setCells w.heap.size 0 SL).setCells b1 0 UL).rangeAt w.heap.size 0 SL) := fun j v hv => (World.cell?_setCells_out b1 _ _ _ _ (fun e => by have h1 := HBB.out.1; have h2 : w.heap.size = b1 := e; omega)).trans (World.rangeAt_setCells_same _ _ _ _ HT0.out j v hv)
          have hlast2 : Hid (((wr.drew.setCells w.heap.size 0 SL).setCells b1 0 UL).rangeAt b1 0 UL) := World.rangeAt_setCells_same _ _ _ _ (World.there_setCells HT1.out _ _ _)
          have hbel : Hid (Below w.heap.size w ((wr.drew.setCells w.heap.size 0 SL).setCells b1 0 UL)) := belowB_setCells _ (by have := HBB.out; omega) _ _ _ (belowB_setCells _ (Nat.le_refl _) _ _ _ HR.out.1.old.drew)
          go_wp2
          refine ret_cells2 SL UL Tryz.results112 rfl rfl hlast.out hlast2.out Tryz.underlying118 rfl s65a.out s65b.out ⟨by rw [HSL.out, HUL.out], hbel.out⟩
end Go.Proofs.YtehlppaidgkpaaaGreatDoor
namespace Go.Proofs.YtehlppaidgkpaaaGreatDoor
open Go.RowKit
set_option linter.unusedVariables false
theorem zsize85 : Tryz.zeroCells191.size = 4611 := by kernel_rfl
theorem zb85 : Tryz.prog.built 191 [] = some Tryz.zeroCells191 := by kernel_rfl
theorem zhead85 : Tryz.zeroCells191.toList.take 2 = [.slice none 0 0, .slice none 0 0] := by kernel_rfl
theorem zlast85 : Tryz.zeroCells191.toList.drop 4610 = [.bool false] := by kernel_rfl
theorem dbl_tms : ∀ a : Fin 256, tmsN 8 0 a.1 2 = dblN a.1 := by decide +kernel
/-- The rows of products. -/
def byF : Nat → Nat → Nat
  | 1, j => j
  | 2, j => x2 j
  | 3, j => x3 j
  | 9, j => x9 j
  | 11, j => x11 j
  | 13, j => x13 j
  | _, j => x14 j
def byR (r : Nat) : Prop := r = 1 ∨ r = 2 ∨ r = 3 ∨ r = 9 ∨ r = 11 ∨ r = 13 ∨ r = 14
/-- The reference's key while it is made at g: tables, and the products of the first m bytes. -/
structure RkT (w : World) (g m : Nat) (v : World) : Prop where
  old : Below g w v
  room : v.there g 0 4611
  lt : g < v.heap.size
  s : ∀ j, j < 256 → v.cell? ⟨g, 2 + j, none⟩ = some (.int .u8 (SB j : Nat))
  u : ∀ j, j < 256 → v.cell? ⟨g, 258 + j, none⟩ = some (.int .u8 (UB j : Nat))
  by' : ∀ r, byR r → ∀ j, j < m → v.cell? ⟨g, 514 + 256 * r + j, none⟩ = some (.int .u8 (byF r j : Nat))
  wiped : v.cell? ⟨g, 4610, none⟩ = some (.bool false)
theorem RkT.keep {w v v' : World} {g m : Nat} (h : RkT w g m v) (hb : v'.heap[g]? = v.heap[g]?) (ho : Below g w v') (hs : v.heap.size ≤ v'.heap.size) : RkT w g m v' := by
  have hc : ∀ j, v'.cell? ⟨g, j, none⟩ = v.cell? ⟨g, j, none⟩ := fun j => World.cell?_of_block (a := ⟨g, j, none⟩) hb
  have hf : ∀ j, v'.frozen? ⟨g, j, none⟩ = v.frozen? ⟨g, j, none⟩ := fun j => World.frozen?_of_block (a := ⟨g, j, none⟩) hb
  exact ⟨ho, fun j hj => by rw [hc, hf]; exact h.room j hj, Nat.lt_of_lt_of_le h.lt hs, fun j hj => (hc _).trans (h.s j hj), fun j hj => (hc _).trans (h.u j hj), fun r hr j hj => (hc _).trans (h.by' r hr j hj), (hc _).trans h.wiped⟩
theorem RkT.set {w v : World} {g m : Nat} (h : RkT w g m v) (j : Nat) (x : Value) (hj : j < 2) : RkT w g m (v.setCell ⟨g, j, none⟩ x) :=
  ⟨h.old.setCell (Nat.le_refl _) _, World.there_setCells h.room _ _ [_], by have := h.lt; simpa [World.setCell] using this, fun i hi => (cell_other _ _ _ _ _ (by omega)).trans (h.s i hi), fun i hi => (cell_other _ _ _ _ _ (by omega)).trans (h.u i hi), fun r hr i hi => (cell_other _ _ _ _ _ (by omega)).trans (h.by' r hr i hi), (cell_other _ _ _ _ _ (by omega)).trans h.wiped⟩
/-- Seven cells more. -/
def bySet (v : World) (g k : Nat) : World :=
  ((((((v.setCell ⟨g, 770 + k, none⟩ (.int .u8 (k : Nat))).setCell ⟨g, 1026 + k, none⟩ (.int .u8 (x2 k : Nat))).setCell ⟨g, 1282 + k, none⟩ (.int .u8 (x3 k : Nat))).setCell ⟨g, 2818 + k, none⟩ (.int .u8 (x9 k : Nat))).setCell ⟨g, 3330 + k, none⟩ (.int .u8 (x11 k : Nat))).setCell ⟨g, 3842 + k, none⟩ (.int .u8 (x13 k : Nat))).setCell ⟨g, 4098 + k, none⟩ (.int .u8 (x14 k : Nat))
theorem bySet_out (v : World) (g k j : Nat) (h : j ≠ 770 + k ∧ j ≠ 1026 + k ∧ j ≠ 1282 + k ∧ j ≠ 2818 + k ∧ j ≠ 3330 + k ∧ j ≠ 3842 + k ∧ j ≠ 4098 + k) : (bySet v g k).cell? ⟨g, j, none⟩ = v.cell? ⟨g, j, none⟩ := by
  unfold bySet
  rw [cell_other _ _ _ _ _ (by omega), cell_other _ _ _ _ _ (by omega), cell_other _ _ _ _ _ (by omega), cell_other _ _ _ _ _ (by omega), cell_other _ _ _ _ _ (by omega), cell_other _ _ _ _ _ (by omega), cell_other _ _ _ _ _ (by omega)]
theorem bySet_there {v : World} {g o n : Nat} (k : Nat) (h : v.there g o n) : (bySet v g k).there g o n :=
  World.there_setCells (World.there_setCells (World.there_setCells (World.there_setCells (World.there_setCells (World.there_setCells (World.there_setCells h _ _ [_]) _ _ [_]) _ _ [_]) _ _ [_]) _ _ [_]) _ _ [_]) _ _ [_]
theorem bySet_below {w v : World} {g : Nat} (k : Nat) (h : Below g w v) : Below g w (bySet v g k) :=
  ((((((h.setCell (Nat.le_refl _) _).setCell (Nat.le_refl _) _).setCell (Nat.le_refl _) _).setCell (Nat.le_refl _) _).setCell (Nat.le_refl _) _).setCell (Nat.le_refl _) _).setCell (Nat.le_refl _) _
theorem bySet_size (v : World) (g k : Nat) : (bySet v g k).heap.size = v.heap.size := by simp [bySet, World.setCell]
theorem bySet_in {v : World} {g k : Nat} (ht : v.there g 0 4611) (hk : k < 256) (r : Nat) (hr : byR r) : (bySet v g k).cell? ⟨g, 514 + 256 * r + k, none⟩ = some (.int .u8 (byF r k : Nat)) := by
  unfold bySet
  rcases hr with rfl | rfl | rfl | rfl | rfl | rfl | rfl
  · show World.cell? _ ⟨g, 770 + k, none⟩ = _
    rw [cell_other _ _ _ _ _ (by omega), cell_other _ _ _ _ _ (by omega), cell_other _ _ _ _ _ (by omega), cell_other _ _ _ _ _ (by omega), cell_other _ _ _ _ _ (by omega), cell_other _ _ _ _ _ (by omega)]
    exact set_same _ ht (by omega)
  · show World.cell? _ ⟨g, 1026 + k, none⟩ = _
    rw [cell_other _ _ _ _ _ (by omega), cell_other _ _ _ _ _ (by omega), cell_other _ _ _ _ _ (by omega), cell_other _ _ _ _ _ (by omega), cell_other _ _ _ _ _ (by omega)]
    exact set_same _ (World.there_setCells ht _ _ [_]) (by omega)
  · show World.cell? _ ⟨g, 1282 + k, none⟩ = _
    rw [cell_other _ _ _ _ _ (by omega), cell_other _ _ _ _ _ (by omega), cell_other _ _ _ _ _ (by omega), cell_other _ _ _ _ _ (by omega)]
    exact set_same _ (World.there_setCells (World.there_setCells ht _ _ [_]) _ _ [_]) (by omega)
  · show World.cell? _ ⟨g, 2818 + k, none⟩ = _
    rw [cell_other _ _ _ _ _ (by omega), cell_other _ _ _ _ _ (by omega), cell_other _ _ _ _ _ (by omega)]
    exact set_same _ (World.there_setCells (World.there_setCells (World.there_setCells ht _ _ [_]) _ _ [_]) _ _ [_]) (by omega)
  · show World.cell? _ ⟨g, 3330 + k, none⟩ = _
    rw [cell_other _ _ _ _ _ (by omega), cell_other _ _ _ _ _ (by omega)]
    exact set_same _ (World.there_setCells (World.there_setCells (World.there_setCells (World.there_setCells ht _ _ [_]) _ _ [_]) _ _ [_]) _ _ [_]) (by omega)
  · show World.cell? _ ⟨g, 3842 + k, none⟩ = _
    rw [cell_other _ _ _ _ _ (by omega)]
    exact set_same _ (World.there_setCells (World.there_setCells (World.there_setCells (World.there_setCells (World.there_setCells ht _ _ [_]) _ _ [_]) _ _ [_]) _ _ [_]) _ _ [_]) (by omega)
  · show World.cell? _ ⟨g, 4098 + k, none⟩ = _
    exact set_same _ (World.there_setCells (World.there_setCells (World.there_setCells (World.there_setCells (World.there_setCells (World.there_setCells ht _ _ [_]) _ _ [_]) _ _ [_]) _ _ [_]) _ _ [_]) _ _ [_]) (by omega)
theorem RkT.more {w v : World} {g k : Nat} (h : RkT w g k v) (hk : k < 256) : RkT w g (k + 1) (bySet v g k) := by
  refine ⟨bySet_below k h.old, bySet_there k h.room, by rw [bySet_size]; exact h.lt, fun j hj => (bySet_out _ _ _ _ (by omega)).trans (h.s j hj), fun j hj => (bySet_out _ _ _ _ (by omega)).trans (h.u j hj), fun r hr j hj => ?_, (bySet_out _ _ _ _ (by omega)).trans h.wiped⟩
  by_cases hjk : j = k
  · subst hjk; exact bySet_in h.room hk r hr
  · rw [bySet_out _ _ _ _ (by rcases hr with rfl | rfl | rfl | rfl | rfl | rfl | rfl <;> omega)]
    exact h.by' r hr j (by omega)
theorem own_set {w : World} {base e sz n g o : Nat} {v x : Value} {xs : List Value} (h : w.ownsRow base e sz v n xs) (hg : g < base) : (w.setCell ⟨g, o, none⟩ x).ownsRow base e sz v n xs :=
  h.kept (row := some g) ⟨rfl, rfl, rfl, by simp [World.setCell], fun k hk hne => World.heap_setCells_other w g o [x] hk (fun q => hne (by rw [q]))⟩ (by
    cases hv : v.ownBlock with
    | none => exact .inl rfl
    | some k => right; intro q; have := (h.lt k hv).1; simp at q; omega)
end Go.Proofs.YtehlppaidgkpaaaGreatDoor
namespace Go.Proofs.YtehlppaidgkpaaaGreatDoor
open Go.RowKit
set_option linter.unusedVariables false
/-- Four bytes at tb. -/
structure Tr (v : World) (tb : Nat) (f : Nat → Nat) : Prop where
  lt : tb < v.heap.size
  c : ∀ j, j < 4 → v.cell? ⟨tb, j, none⟩ = some (.int .u8 (f j : Nat))
theorem Tr.below {v v' : World} {tb : Nat} {f : Nat → Nat} (h : Tr v tb f) (hb : Below v.heap.size v v') : Tr v' tb f :=
  ⟨Nat.lt_of_lt_of_le h.lt hb.size, fun j hj => (hb.cell (p := ⟨tb, j, none⟩) h.lt).trans (h.c j hj)⟩
theorem Tr.new (v : World) (a b c d : Nat) : Tr (v.alloc (.cells #[.int .u8 (a : Nat), .int .u8 (b : Nat), .int .u8 (c : Nat), .int .u8 (d : Nat)] 5)) v.heap.size (fun j => if j = 0 then a else if j = 1 then b else if j = 2 then c else d) := by
  refine ⟨by simp, fun j hj => ?_⟩
  rw [World.cell?_alloc_at _ 5 _ _ rfl]
  have hm : j = 0 ∨ j = 1 ∨ j = 2 ∨ j = 3 := by omega
  rcases hm with rfl | rfl | rfl | rfl <;> rfl
theorem Tr.app {v v1 v2 : World} {tb gr g : Nat} {f : Nat → Nat} {x : Value} (h : Tr v tb f) (hb : Below v.heap.size v v1) (hg : v1.grownBy v2 (some gr)) (hne : gr ≠ tb) (hg2 : g ≠ tb) : Tr (v2.setCell ⟨g, 1, none⟩ x) tb f := by
  have h1 := h.below hb
  refine ⟨by have := Nat.lt_of_lt_of_le h1.lt hg.size; simpa [World.setCell] using this, fun j hj => ?_⟩
  rw [World.cell?_setCell_far _ _ _ _ (by exact hg2)]
  exact (World.cell?_of_block (a := ⟨tb, j, none⟩) (hg.block tb h1.lt (by simp; omega))).trans (h1.c j hj)
end Go.Proofs.YtehlppaidgkpaaaGreatDoor
namespace Go.Proofs.YtehlppaidgkpaaaGreatDoor
open Go.RowKit
set_option linter.unusedVariables false
/-- So many bytes as cells. -/
def fL (f : Nat → Nat) (m : Nat) : List Value := (List.range m).map fun j => .int .u8 (f j : Nat)
theorem fL_len (f : Nat → Nat) (m : Nat) : (fL f m).length = m := by simp [fL]
theorem fL_at (f : Nat → Nat) (m j : Nat) (h : j < m) : (fL f m)[j]? = some (.int .u8 (f j : Nat)) := by simp [fL, h]
def fUp (f : Nat → Nat) (m x j : Nat) : Nat := if j = m then x else f j
theorem fUp_lt {f : Nat → Nat} (h : ∀ j, f j < 256) (m : Nat) {x : Nat} (hx : x < 256) (j : Nat) : fUp f m x j < 256 := by unfold fUp; split; exact hx; exact h j
theorem fL_up (f : Nat → Nat) (m x : Nat) : fL (fUp f m x) (m + 1) = fL f m ++ [.int .u8 (x : Nat)] := by
  unfold fL
  rw [List.range_succ, List.map_append]
  congr 1
  · apply List.map_congr_left
    intro j hj
    rw [List.mem_range] at hj
    unfold fUp
    rw [if_neg (by omega)]
  · simp [fUp]
/-- The reference's key while its round bytes grow: what they are is not asked. -/
structure RkW (w : World) (g gr c m : Nat) (f : Nat → Nat) (v : World) : Prop where
  t : RkT w g 256 v
  r : v.cell? ⟨g, 1, none⟩ = some (.slice (some ⟨gr, 0, none⟩) m c)
  o : v.ownsRow (g + 1) 5 1 (.slice (some ⟨gr, 0, none⟩) m c) m (fL f m)
  b : ∀ j, f j < 256
theorem RkW.gr_lt {w v : World} {g gr c m : Nat} {f : Nat → Nat} (h : RkW w g gr c m f v) : g < gr ∧ gr < v.heap.size := by
  have := h.o.lt gr rfl
  exact ⟨by omega, this.2⟩
theorem RkW.cell {w v : World} {g gr c m : Nat} {f : Nat → Nat} (h : RkW w g gr c m f v) (j : Nat) (hj : j < m) : v.cell? ⟨gr, j, none⟩ = some (.int .u8 (f j : Nat)) := by
  rw [h.o.cellAt j (by omega)]
  exact fL_at f m j hj
theorem RkW.below {w v v' : World} {g gr c m : Nat} {f : Nat → Nat} (h : RkW w g gr c m f v) (hb : Below v.heap.size v v') : RkW w g gr c m f v' :=
  ⟨h.t.keep (hb.block g h.t.lt) (h.t.old.trans (hb.mono (Nat.le_of_lt h.t.lt))) hb.size, (hb.cell (p := ⟨g, 1, none⟩) h.t.lt).trans h.r,
   h.o.kept (row := none) ⟨hb.os, hb.tape, hb.output, hb.size, fun k hk _ => hb.block k hk⟩ (by simp [Value.ownBlock]), h.b⟩
theorem RkW.app {w v v1 v2 : World} {g gr c m g' c' : Nat} {f : Nat → Nat} {x : Nat} (h : RkW w g gr c m f v) (hb : Below v.heap.size v v1) (hx : x < 256) (ho : v2.ownsRow (g + 1) 5 1 (.slice (some ⟨g', 0, none⟩) (m + 1) c') (m + 1) (fL f m ++ [.int .u8 (x : Nat)])) (hg : v1.grownBy v2 (some gr)) :
    RkW w g g' c' (m + 1) (fUp f m x) (v2.setCell ⟨g, 1, none⟩ (.slice (some ⟨g', 0, none⟩) (m + 1) c')) := by
  have h1 := h.below hb
  have hne : some g ≠ some gr := by have := h.gr_lt; simp; omega
  have hgb := hg.block g h1.t.lt hne
  have ht : RkT w g 256 v2 := h1.t.keep hgb (h1.t.old.grown hg (Nat.le_of_lt h1.t.lt) (by intro q hq; have := h.gr_lt; simp at hq; omega)) hg.size
  refine ⟨ht.set 1 _ (by omega), set_same _ ht.room (by omega), own_set ?_ (Nat.lt_succ_self g), fUp_lt h.b m hx⟩
  rw [fL_up]
  exact ho
/-- The numbers of New. -/
theorem rk_num (nk n : Nat) (h : nk = 4 ∨ nk = 6 ∨ nk = 8) (hn : n = 4 * nk) : (n : Int).tdiv 4 = (nk : Int) ∧ (n : Int) / 4 = (nk : Int) ∧ IntKind.i64.wrap (nk : Int) = (nk : Int) ∧ IntKind.i64.wrap ((nk : Int) + 7) = ((nk + 7 : Nat) : Int) ∧ IntKind.i64.wrap (4 * ((nk + 7 : Nat) : Int)) = ((4 * (nk + 7) : Nat) : Int) ∧ ((nk : Int) == 0) = false ∧ (nk : Int) ≠ 0 ∧ ¬ nk = 0 ∧ 16 ≤ n ∧ n ≤ 32 := by
  refine ⟨?_, by omega, ?_, ?_, ?_, by simp; omega, by omega, by omega, by omega, by omega⟩
  · rw [Int.tdiv_eq_ediv_of_nonneg (by omega)]; omega
  · rw [IntKind.wrap_i64]; omega
  · rw [IntKind.wrap_i64]; omega
  · rw [IntKind.wrap_i64]; omega
theorem RkT.sv {w v : World} {g m : Nat} (h : RkT w g m v) (b : Nat) (hb : b < 256) : ∃ x : Nat, x < 256 ∧ v.cell? ⟨g, 2 + b, none⟩ = some (.int .u8 (x : Nat)) := ⟨SB b, SB_lt _, h.s b hb⟩
theorem rk_ix (ii : Nat) (h1 : 4 ≤ ii) (h2 : ii ≤ 60) : 4 * ((ii : Nat) : Int) - 4 = ((4 * ii - 4 : Nat) : Int) ∧ 4 * ((ii : Nat) : Int) - 3 = ((4 * ii - 3 : Nat) : Int) ∧ 4 * ((ii : Nat) : Int) - 2 = ((4 * ii - 2 : Nat) : Int) ∧ 4 * ((ii : Nat) : Int) - 1 = ((4 * ii - 1 : Nat) : Int) ∧ IntKind.i64.wrap ((4 * ii - 4 : Nat) : Int) = ((4 * ii - 4 : Nat) : Int) ∧ IntKind.i64.wrap ((4 * ii - 3 : Nat) : Int) = ((4 * ii - 3 : Nat) : Int) ∧ IntKind.i64.wrap ((4 * ii - 2 : Nat) : Int) = ((4 * ii - 2 : Nat) : Int) ∧ IntKind.i64.wrap ((4 * ii - 1 : Nat) : Int) = ((4 * ii - 1 : Nat) : Int) ∧ IntKind.i64.wrap (4 * ((ii : Nat) : Int)) = 4 * ((ii : Nat) : Int) ∧ IntKind.i64.wrap (((ii : Nat) : Int) + 1) = ((ii + 1 : Nat) : Int) := by
  refine ⟨by omega, by omega, by omega, by omega, ?_, ?_, ?_, ?_, ?_, ?_⟩ <;> (rw [IntKind.wrap_i64]; omega)
theorem rk_iq (ii nk jj : Nat) (h1 : nk ≤ ii) (h2 : ii ≤ 60) (h3 : jj < 4) : IntKind.i64.wrap (((ii : Nat) : Int) - ((nk : Nat) : Int)) = ((ii - nk : Nat) : Int) ∧ IntKind.i64.wrap (4 * ((ii - nk : Nat) : Int)) = ((4 * (ii - nk) : Nat) : Int) ∧ ((4 * (ii - nk) : Nat) : Int) + ((jj : Nat) : Int) = ((4 * (ii - nk) + jj : Nat) : Int) ∧ IntKind.i64.wrap ((4 * (ii - nk) + jj : Nat) : Int) = ((4 * (ii - nk) + jj : Nat) : Int) ∧ IntKind.i64.wrap (((jj : Nat) : Int) + 1) = ((jj + 1 : Nat) : Int) := by
  refine ⟨?_, ?_, by omega, ?_, ?_⟩ <;> (rw [IntKind.wrap_i64]; omega)
theorem rk_all (nk n : Nat) (h : nk = 4 ∨ nk = 6 ∨ nk = 8) (hn : n = 4 * nk) : ((n : Int) != 16 && (n : Int) != 24 && (n : Int) != 32) = false := by
  rcases h with rfl | rfl | rfl <;> subst hn <;> decide
end Go.Proofs.YtehlppaidgkpaaaGreatDoor
