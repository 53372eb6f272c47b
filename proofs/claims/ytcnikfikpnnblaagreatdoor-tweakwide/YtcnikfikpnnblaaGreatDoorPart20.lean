import Derived.Test.YtcnikfikpnnblaaGreatDoorRow
import Derived.Test.YtcnikfikpnnblaaGreatDoorPart01
import Derived.Deep.CutRange
import Derived.Test.YtcnikfikpnnblaaGreatDoorPart18
import Derived.Test.YtcnikfikpnnblaaGreatDoorPart00
import Derived.Test.YtcnikfikpnnblaaGreatDoorAddKey
import Derived.Test.YtcnikfikpnnblaaGreatDoorBlk
namespace Go.Proofs.YtcnikfikpnnblaaGreatDoor
open Go.RowKit
set_option linter.unusedVariables false
/-- The powers of 3, those of its inverse, the logarithm: out of one number each. -/
def pwT (j : Nat) : Nat := Nat.mod (Nat.shiftRight 247704880781559356684414323119999879637317647180040216102211349143305888774923398537951341803642731683984666991564019150676315804531779449815159115664189418245566988781254625896260912026622159780553349108386186142268315007856282091988200171439146255715840100601167723801170608095743514940052926055042184507632911811387723359914440662207451538163404716729158929845121383729837235901114109841630616474463024741216292666125260571984924724184385554713500007113061044175325657975136216706165622836048350080632971744177780693200859426168487707538171671676645432511882666690861394815764438377708986394032816479809277592321 (Nat.mul 8 j)) 256
def ivT (j : Nat) : Nat := Nat.mod (Nat.shiftRight 127727404692115426734198332805968219844573505114629208686901216293690186132462130931675081705992402874744649337146722143913163583643487276303943818893807190013751092806990287370556889600057311714676499800760749547103353651662433367294783190206880884813569237221343399581497263169989195187996008530110587099785212876728548450345268301970899227233349908984604527389233338265073456776979288885037749793268642272576260293033947624555608176220260351415492203342228236466557716880135026471476615524857486394512952861707819425159769229481997196826278555408639803976402068508913166242851432043694978610662015700264484533761 (Nat.mul 8 j)) 256
def lgT (b : Nat) : Nat := Nat.mod (Nat.shiftRight 939374623831894136699086600277250597547650664638770418422125146541797353646788332867483593573384618611044815625336497665827114626705134492515730415652478061620339993830966980270842846318821775850471098591710629241171812800746666233448222972174585295916389942636813666312872914849454985560152530477328703759683306625234997237483834721220409437442253146756845415190424543171129629468776480674528486868811725071010351012234056630775688111116293610821126543142160426617079940511630006820862697466582575257349116925728488930366609138264019883664906661504235885380294353134295748489096855100647154935187045898006656778240 (Nat.mul 8 b)) 256
theorem pwT_lt (j : Nat) : pwT j < 256 := Nat.mod_lt _ (by decide)
theorem ivT_lt (j : Nat) : ivT j < 256 := Nat.mod_lt _ (by decide)
theorem pw_step : ∀ j : Fin 255, tmsN 8 0 (pwT j.1) 3 = pwT (j.1 + 1) ∧ tmsN 8 0 (ivT j.1) 246 = ivT (j.1 + 1) ∧ sprN (ivT j.1) = SB (pwT j.1) := by decide +kernel
theorem lg_all : ∀ b : Fin 256, b.1 = 0 ∨ (lgT b.1 < 255 ∧ pwT (lgT b.1) = b.1) := by decide +kernel
theorem SB_inj {b c : Nat} (hb : b < 256) (hc : c < 256) (h : SB b = SB c) : b = c := by
 have h1 := (UB_SB ⟨b, hb⟩).1
 have h2 := (UB_SB ⟨c, hc⟩).1
 simp only at h1 h2
 rw [← h1, ← h2, h]
/-- The row of a byte stands. -/
structure RowOk (w : World) (g o b : Nat) : Prop where
 s : w.cell? ⟨g, o + 61 + b, none⟩ = some (.int .u8 (SB b : Nat))
 u : w.cell? ⟨g, o + 317 + SB b, none⟩ = some (.int .u8 (b : Nat))
 m : w.cell? ⟨g, o + 573 + b, none⟩ = some (.int .u32 (MX b : Nat))
 n : w.cell? ⟨g, o + 829 + b, none⟩ = some (.int .u32 (UX b : Nat))
theorem cell_other (w : World) (g i j : Nat) (v : Value) (h : i ≠ j) : (w.setCell ⟨g, i, none⟩ v).cell? ⟨g, j, none⟩ = w.cell? ⟨g, j, none⟩ :=
 World.cell?_setCell_other w ⟨g, i, none⟩ ⟨g, j, none⟩ v (fun e => h (by cases e; rfl))
theorem cell_same {w : World} {g o i n : Nat} (v : Value) (ht : w.there g o n) (hi : i < n) : (w.setCell ⟨g, o + i, none⟩ v).cell? ⟨g, o + i, none⟩ = some v :=
 World.cell?_setCell_same' _ _ _ (ht i hi).1
theorem rowSet_same {w : World} {g o b : Nat} (ht : w.there g o 1085) (hb : b < 256) : RowOk (rowSet w g o b (SB b)) g o b := by
 have hs := SB_lt b
 unfold rowSet
 refine ⟨?_, ?_, ?_, ?_⟩
 ·rw [cell_other _ _ _ _ _ (by omega), cell_other _ _ _ _ _ (by omega), cell_other _ _ _ _ _ (by omega)]
  have := cell_same (i := 61 + b) (.int .u8 (SB b : Nat)) ht (by omega)
  rw [← Nat.add_assoc] at this
  exact this
 ·rw [cell_other _ _ _ _ _ (by omega), cell_other _ _ _ _ _ (by omega)]
  have := cell_same (i := 317 + SB b) (.int .u8 (b : Nat)) (World.there_setCells ht g (o + 61 + b) [.int .u8 (SB b : Nat)]) (by omega)
  rw [← Nat.add_assoc] at this
  exact this
 ·rw [cell_other _ _ _ _ _ (by omega)]
  have := cell_same (i := 573 + b) (.int .u32 (MX b : Nat)) (World.there_setCells (World.there_setCells ht g (o + 61 + b) [.int .u8 (SB b : Nat)]) g (o + 317 + SB b) [.int .u8 (b : Nat)]) (by omega)
  rw [← Nat.add_assoc] at this
  exact this
 ·have := cell_same (i := 829 + b) (.int .u32 (UX b : Nat)) (World.there_setCells (World.there_setCells (World.there_setCells ht g (o + 61 + b) [.int .u8 (SB b : Nat)]) g (o + 317 + SB b) [.int .u8 (b : Nat)]) g (o + 573 + b) [.int .u32 (MX b : Nat)]) (by omega)
  rw [← Nat.add_assoc] at this
  exact this
theorem rowSet_other {w : World} {g o b c : Nat} (hb : b < 256) (hc : c < 256) (hne : b ≠ c) (h : RowOk w g o c) : RowOk (rowSet w g o b (SB b)) g o c := by
 have hs := SB_lt b
 have hs' := SB_lt c
 have hsn : SB b ≠ SB c := fun e => hne (SB_inj hb hc e)
 unfold rowSet
 refine ⟨?_, ?_, ?_, ?_⟩
 ·rw [cell_other _ _ _ _ _ (by omega), cell_other _ _ _ _ _ (by omega), cell_other _ _ _ _ _ (by omega), cell_other _ _ _ _ _ (by omega)]; exact h.s
 ·rw [cell_other _ _ _ _ _ (by omega), cell_other _ _ _ _ _ (by omega), cell_other _ _ _ _ _ (by omega), cell_other _ _ _ _ _ (by omega)]; exact h.u
 ·rw [cell_other _ _ _ _ _ (by omega), cell_other _ _ _ _ _ (by omega), cell_other _ _ _ _ _ (by omega), cell_other _ _ _ _ _ (by omega)]; exact h.m
 ·rw [cell_other _ _ _ _ _ (by omega), cell_other _ _ _ _ _ (by omega), cell_other _ _ _ _ _ (by omega), cell_other _ _ _ _ _ (by omega)]; exact h.n
theorem RowOk.drewN {w : World} {g o b : Nat} (h : RowOk w g o b) (m : Nat) : RowOk (w.drewN m) g o b := ⟨h.s, h.u, h.m, h.n⟩
theorem rowSet_touch {w v : World} {g o b : Nat} (hb : b < 256) (h : Touch w v g (o + 61) 1024) (m : Nat) : Touch w ((rowSet v g o b (SB b)).drewN m) g (o + 61) 1024 := by
 have hs := SB_lt b
 unfold rowSet
 exact ((((h.setCell _ _ (by omega) (by omega)).setCell _ _ (by omega) (by omega)).setCell _ _ (by omega) (by omega)).setCell _ _ (by omega) (by omega)).drewN m
theorem rows_tab {w : World} {g o : Nat} (h : ∀ b, b < 256 → RowOk w g o b) : Tab w g o :=
 ⟨fun b hb => (h b hb).s, fun c hc => by
  have h1 := (h (UB c) (UB_lt c)).u
  have h2 := (UB_SB ⟨c, hc⟩).2
  simp only at h2
  rw [h2] at h1
  exact h1, fun b hb => (h b hb).m, fun b hb => (h b hb).n⟩
set_option maxHeartbeats 3200000 in
set_option maxRecDepth 100000 in
theorem fillTables_ok (g o : Nat) (w : World) (ht : w.there g o 1085) :
  Calls Tryz.prog 105 #[.pointer (some ⟨g, o, none⟩)] w fun e w' => e = .returned (.tuple #[]) ∧ Touch w w' g (o + 61) 1024 ∧ Tab w' g o := by
 have HT : Hid (w.there g o 1085) := ht
 clear ht
 have hz : SB 0 = 99 := by decide +kernel
 have H0 : Hid (Calls Tryz.prog 166 #[.pointer (some ⟨g, o, none⟩), .int .u8 0, .int .u8 99] w fun e w' => e = .returned (.tuple #[]) ∧ ∃ m, w' = (rowSet w g o 0 99).drewN m) := fillRow_ok g o 0 99 w (by decide) (by decide) HT.out
 go_enter Tryz.func105, Tryz.ntmps105
 go_wp2_with (first | (go_at_call 166; (refine H0.out.mono ?_)))
 rintro e1 w1 ⟨rfl, m1, hw1⟩
 have HI : Hid (Touch w w1 g (o + 61) 1024 ∧ RowOk w1 g o 0) := by
  rw [hw1, ← hz]
  exact ⟨rowSet_touch (by decide) (Touch.refl _ _ _ _) m1, (rowSet_same HT.out (by decide)).drewN m1⟩
 clear hw1 H0
 go_wp2
 go_loopw [2, 3, 6] (fun vp vi i wr => ∃ k : Nat, k ≤ 255 ∧ i = .int .i64 k ∧ vp = .int .u8 (pwT k : Nat) ∧ vi = .int .u8 (ivT k : Nat) ∧ Hid (Touch w wr g (o + 61) 1024 ∧ RowOk wr g o 0 ∧ ∀ j, j < k → RowOk wr g o (pwT j))) (fun _ _ i _ => 255 - (intOf i).toNat)
 case atStart => exact ⟨0, by omega, rfl, rfl, rfl, HI.out.1, HI.out.2, fun j hj => by omega⟩
 case round =>
  obtain ⟨k, hk, rfl, rfl, rfl, HR⟩ := hrel
  by_cases hlt : k < 255
  ·obtain ⟨e1, e2, e3⟩ := pw_step ⟨k, hlt⟩
   simp only at e1 e2 e3
   obtain ⟨p, HP⟩ : ∃ p, Hid (p = pwT k) := ⟨_, rfl⟩
   obtain ⟨v, HV⟩ : ∃ p, Hid (p = ivT k) := ⟨_, rfl⟩
   have hp : p < 256 := by rw [HP.out]; exact pwT_lt k
   have hv : v < 256 := by rw [HV.out]; exact ivT_lt k
   have K1 : Hid (∀ u, Calls Tryz.prog 167 #[.int .u8 (v : Nat)] u fun e u' => e = .returned (.int .u8 (SB p : Nat)) ∧ u' = u) := fun u => (spread_ok v hv u).mono fun e u' ⟨z, _, hz, h1, h2⟩ => ⟨by rw [h1, hz.out, HV.out, e3, HP.out], h2⟩
   have K2 : Hid (Calls Tryz.prog 166 #[.pointer (some ⟨g, o, none⟩), .int .u8 (p : Nat), .int .u8 (SB p : Nat)] wr fun e w' => e = .returned (.tuple #[]) ∧ ∃ m, w' = (rowSet wr g o p (SB p)).drewN m) := fillRow_ok g o p (SB p) wr hp (SB_lt p) (HR.out.1.there _ _ HT.out)
   have K3 : Hid (∀ u, Calls Tryz.prog 168 #[.int .u8 (p : Nat), .int .u8 3] u fun e u' => e = .returned (.int .u8 (pwT (k + 1) : Nat)) ∧ u' = u) := fun u => (times_ok p 3 hp (by decide) u).mono fun e u' ⟨h1, h2⟩ => ⟨by rw [h1, HP.out, e1], h2⟩
   have K4 : Hid (∀ u, Calls Tryz.prog 168 #[.int .u8 (v : Nat), .int .u8 246] u fun e u' => e = .returned (.int .u8 (ivT (k + 1) : Nat)) ∧ u' = u) := fun u => (times_ok v 246 hv (by decide) u).mono fun e u' ⟨h1, h2⟩ => ⟨by rw [h1, HV.out, e2], h2⟩
   clear e1 e2 e3
   obtain ⟨p', HP'⟩ : ∃ p, Hid (p = pwT (k + 1)) := ⟨_, rfl⟩
   obtain ⟨v', HV'⟩ : ∃ p, Hid (p = ivT (k + 1)) := ⟨_, rfl⟩
   rw [← HP'.out] at K3
   rw [← HV'.out] at K4
   rw [← HP.out, ← HV.out]
   go_wp2_with (first | (go_at_call 167; (refine (K1.out _).mono ?_); (rintro e2 w2 ⟨rfl, hw2⟩; obtain rfl := hw2.symm)) | (go_at_call 166; (refine K2.out.mono ?_)))
   rintro e3 w3 ⟨rfl, m3, hw3⟩
   have HR3 : Hid (Touch w w3 g (o + 61) 1024 ∧ RowOk w3 g o 0 ∧ ∀ j, j < k + 1 → RowOk w3 g o (pwT j)) := by
    obtain ⟨r1, r2, r3⟩ := HR.out
    rw [hw3]
    refine ⟨rowSet_touch hp r1 m3, ?_, fun j hj => ?_⟩
    ·by_cases h0 : p = 0
     ·subst h0; exact (rowSet_same (r1.there _ _ HT.out) hp).drewN m3
     ·exact (rowSet_other hp (by decide) h0 r2).drewN m3
    ·by_cases hjk : p = pwT j
     ·rw [← hjk]; exact (rowSet_same (r1.there _ _ HT.out) hp).drewN m3
     ·have hj' : j < k := by
       rcases Nat.lt_or_ge j k with h | h
       ·exact h
       ·exact absurd (show p = pwT j by rw [show j = k by omega]; exact HP.out) hjk
      exact (rowSet_other hp (pwT_lt j) hjk (r3 j hj')).drewN m3
   clear hw3 K1 K2
   go_wp2_with (first | (go_at_call 168; (refine (K3.out _).mono ?_)))
   rintro e4 w4 ⟨rfl, hw4⟩
   obtain rfl := hw4.symm
   go_wp2_with (first | (go_at_call 168; (refine (K4.out _).mono ?_)))
   rintro e5 w5 ⟨rfl, hw5⟩
   obtain rfl := hw5.symm
   go_wp2
   refine ⟨⟨k + 1, by omega, rfl, by rw [HP'.out], by rw [HV'.out], HR3.out⟩, ?_⟩
   simp only [intOf]; omega
  ·obtain rfl : k = 255 := by omega
   go_wp2
   go_end0
   obtain ⟨r1, r2, r3⟩ := HR.out
   refine ⟨rfl, r1, rows_tab (fun b hb => ?_)⟩
   rcases lg_all ⟨b, hb⟩ with h | ⟨h1, h2⟩
   ·simp only at h
    rw [h]
    exact r2
   ·simp only at h1 h2
    have := r3 _ h1
    rw [h2] at this
    exact this
end Go.Proofs.YtcnikfikpnnblaaGreatDoor
namespace Go.Proofs.YtcnikfikpnnblaaGreatDoor
open Go.RowKit
set_option linter.unusedVariables false
/-- A cipher's cells, by place. -/
def cipC (nr : Nat) (K : Nat → Nat) (j : Nat) : Value :=
 if j = 0 then .int .i64 (nr : Nat) else if j < 61 then .int .u32 (K (j - 1) : Nat) else if j < 317 then .int .u8 (SB (j - 61) : Nat) else if j < 573 then .int .u8 (UB (j - 317) : Nat)
 else if j < 829 then .int .u32 (MX (j - 573) : Nat) else .int .u32 (UX (j - 829) : Nat)
def cipL (nr : Nat) (K : Nat → Nat) : List Value := (List.range 1085).map (cipC nr K)
theorem cipL_length (nr : Nat) (K : Nat → Nat) : (cipL nr K).length = 1085 := by simp [cipL]
theorem cipL_at (nr : Nat) (K : Nat → Nat) {j : Nat} (h : j < 1085) : (cipL nr K)[j]? = some (cipC nr K j) := by simp [cipL, h]
theorem cipC_one (nr : Nat) (K : Nat → Nat) (j : Nat) : (cipC nr K j).oneCell' = true := by
 unfold cipC
 repeat' split
 all_goals rfl
theorem cipL_one (nr : Nat) (K : Nat → Nat) : (cipL nr K).toArray.all (·.oneCell') = true := all_oneCell_toArray (fun v hv => by
 simp only [cipL, List.mem_map] at hv
 obtain ⟨j, _, rfl⟩ := hv
 exact cipC_one nr K j)
theorem cipL_range {w : World} {g o nr : Nat} {K : Nat → Nat} (h0 : w.cell? ⟨g, o, none⟩ = some (.int .i64 (nr : Nat))) (hw : ∀ i, i < 60 → w.cell? ⟨g, o + 1 + i, none⟩ = some (.int .u32 (K i : Nat))) (ht : Tab w g o) : w.rangeAt g o (cipL nr K) := fun j v hv => by
 have hj : j < 1085 := by
  have := (List.getElem?_eq_some_iff.1 hv).1
  rw [cipL_length] at this
  exact this
 rw [cipL_at nr K hj] at hv
 obtain rfl := Option.some.inj hv
 unfold cipC
 by_cases h1 : j = 0
 ·rw [if_pos h1, h1]; exact h0
 rw [if_neg h1]
 by_cases h2 : j < 61
 ·rw [if_pos h2]; have := hw (j - 1) (by omega); rw [show o + 1 + (j - 1) = o + j by omega] at this; exact this
 rw [if_neg h2]
 by_cases h3 : j < 317
 ·rw [if_pos h3]; have := ht.s (j - 61) (by omega); rw [show o + 61 + (j - 61) = o + j by omega] at this; exact this
 rw [if_neg h3]
 by_cases h4 : j < 573
 ·rw [if_pos h4]; have := ht.u (j - 317) (by omega); rw [show o + 317 + (j - 317) = o + j by omega] at this; exact this
 rw [if_neg h4]
 by_cases h5 : j < 829
 ·rw [if_pos h5]; have := ht.m (j - 573) (by omega); rw [show o + 573 + (j - 573) = o + j by omega] at this; exact this
 rw [if_neg h5]
 have := ht.n (j - 829) (by omega)
 rw [show o + 829 + (j - 829) = o + j by omega] at this
 exact this
theorem ciph_of_range {w : World} {g o nr : Nat} {K : Nat → Nat} (h : w.rangeAt g o (cipL nr K)) (hg : g < w.heap.size) (h1 : 1 ≤ nr) (h14 : nr ≤ 14) (hK : ∀ i, K i < 4294967296) : Ciph w g o nr K := by
 have e : ∀ j, j < 1085 → w.cell? ⟨g, o + j, none⟩ = some (cipC nr K j) := fun j hj => h j _ (cipL_at nr K hj)
 refine ⟨?_, fun i hi => ?_, hK, ⟨fun b hb => ?_, fun b hb => ?_, fun b hb => ?_, fun b hb => ?_⟩, hg, h1, h14⟩
 ·exact e 0 (by omega)
 ·have := e (1 + i) (by omega)
  rw [← Nat.add_assoc] at this
  rw [this]
  unfold cipC
  rw [if_neg (by omega), if_pos (by omega), show 1 + i - 1 = i by omega]
 ·have := e (61 + b) (by omega)
  rw [← Nat.add_assoc] at this
  rw [this]
  unfold cipC
  rw [if_neg (by omega), if_neg (by omega), if_pos (by omega), show 61 + b - 61 = b by omega]
 ·have := e (317 + b) (by omega)
  rw [← Nat.add_assoc] at this
  rw [this]
  unfold cipC
  rw [if_neg (by omega), if_neg (by omega), if_neg (by omega), if_pos (by omega), show 317 + b - 317 = b by omega]
 ·have := e (573 + b) (by omega)
  rw [← Nat.add_assoc] at this
  rw [this]
  unfold cipC
  rw [if_neg (by omega), if_neg (by omega), if_neg (by omega), if_neg (by omega), if_pos (by omega), show 573 + b - 573 = b by omega]
 ·have := e (829 + b) (by omega)
  rw [← Nat.add_assoc] at this
  rw [this]
  unfold cipC
  rw [if_neg (by omega), if_neg (by omega), if_neg (by omega), if_neg (by omega), if_neg (by omega), show 829 + b - 829 = b by omega]
/-- The schedule. -/
def upd (f : Nat → Nat) (i v : Nat) : Nat → Nat := fun j => if j = i then v else f j
def subw (x : Nat) : Nat := lastw x x x x
def rotw (x : Nat) : Nat := wd (bt1 x) (bt2 x) (bt3 x) (bt0 x)
def rcT (i : Nat) : Nat := Nat.mod (Nat.shiftRight 255515093586639589736961 (Nat.mul 8 i)) 256
def nextW (nk i : Nat) (K : Nat → Nat) : Nat :=
 Nat.xor (K (i - nk)) (if i % nk = 0 then Nat.xor (subw (rotw (K (i - 1)))) (rcT (i / nk - 1) * 16777216) else if nk = 8 ∧ i % 8 = 4 then subw (K (i - 1)) else K (i - 1))
def keyW (key : Nat → Nat) : Nat → Nat → Nat
 | 0 => fun _ => 0
 | i + 1 => upd (keyW key i) (i / 4) (keyW key i (i / 4) * 256 % 4294967296 + key i)
def goW (nk : Nat) (K : Nat → Nat) : Nat → Nat → Nat
 | 0 => K
 | m + 1 => upd (goW nk K m) (nk + m) (nextW nk (nk + m) (goW nk K m))
/-- The words of a key of 4 nk bytes. -/
def schedK (nk : Nat) (key : Nat → Nat) : Nat → Nat := goW nk (keyW key (4 * nk)) (3 * nk + 28)
theorem keyW_lt {key : Nat → Nat} (hk : ∀ i, key i < 256) : ∀ i j, keyW key i j < 4294967296
 | 0, j => by show 0 < _; decide
 | i + 1, j => by
  unfold keyW upd
  have := hk i
  split
  ·omega
  ·exact keyW_lt hk i j
theorem rcT_lt (i : Nat) : rcT i < 256 := Nat.mod_lt _ (by decide)
theorem subw_lt (x : Nat) : subw x < 4294967296 := lastw_lt _ _ _ _
theorem nextW_lt {nk i : Nat} {K : Nat → Nat} (hK : ∀ j, K j < 4294967296) : nextW nk i K < 4294967296 := by
 unfold nextW
 refine xor_lt32 (hK _) ?_
 have := rcT_lt (i / nk - 1)
 split
 ·exact xor_lt32 (subw_lt _) (by omega)
 ·split
  ·exact subw_lt _
  ·exact hK _
theorem goW_lt {nk : Nat} {K : Nat → Nat} (hK : ∀ j, K j < 4294967296) : ∀ m j, goW nk K m j < 4294967296
 | 0, j => hK j
 | m + 1, j => by
  unfold goW upd
  split
  ·exact nextW_lt (goW_lt hK m)
  ·exact goW_lt hK m j
theorem schedK_lt {nk : Nat} {key : Nat → Nat} (hk : ∀ i, key i < 256) (j : Nat) : schedK nk key j < 4294967296 := goW_lt (keyW_lt hk _) _ j
/-- What stands while a key is scheduled in block B + 1. -/
structure SchAt (w : World) (nr : Nat) (K : Nat → Nat) (u : World) : Prop where
 old : Below w.heap.size w u
 size : w.heap.size + 2 ≤ u.heap.size
 res : u.there w.heap.size 0 1085
 room : u.there (w.heap.size + 1) 0 1085
 rounds : u.cell? ⟨w.heap.size + 1, 0, none⟩ = some (.int .i64 (nr : Nat))
 words : ∀ j, j < 60 → u.cell? ⟨w.heap.size + 1, 1 + j, none⟩ = some (.int .u32 (K j : Nat))
theorem SchAt.touch {w u u' : World} {nr : Nat} {K : Nat → Nat} (h : SchAt w nr K u) (ht : Touch u u' (w.heap.size + 1) 61 1024) : SchAt w nr K u' := by
 have hs := h.size
 refine ⟨h.old.trans (ht.toBelow (Nat.le_succ _) h.old.size), Nat.le_trans h.size ht.size, ?_, ht.there _ _ h.room, (ht.cell 0 (by omega)).trans h.rounds, fun j hj => (ht.cell (1 + j) (by omega)).trans (h.words j hj)⟩
 intro j hj
 have := h.res j hj
 rw [ht.far (p := ⟨w.heap.size, 0 + j, none⟩) (show w.heap.size < _ by omega) (show w.heap.size ≠ _ by omega), ht.farFrozen (p := ⟨w.heap.size, 0 + j, none⟩) (show w.heap.size < _ by omega) (show w.heap.size ≠ _ by omega)]
 exact this
theorem SchAt.set {w u : World} {nr : Nat} {K : Nat → Nat} (h : SchAt w nr K u) (i v : Nat) (hi : i < 60) : SchAt w nr (upd K i v) (u.setCell ⟨w.heap.size + 1, 1 + i, none⟩ (.int .u32 (v : Nat))) := by
 refine ⟨h.old.setCell (Nat.le_succ _) _, ?_, World.there_setCells h.res _ _ [_], World.there_setCells h.room _ _ [_], ?_, fun j hj => ?_⟩
 ·have := h.size; simpa [World.setCell] using this
 ·rw [cell_other _ _ _ _ _ (by omega)]; exact h.rounds
 ·unfold upd
  by_cases hji : j = i
  ·subst hji
   rw [if_pos rfl]
   have := h.room (1 + j) (by omega)
   simp only [Nat.zero_add] at this
   exact World.cell?_setCell_same' _ _ _ this.1
  ·rw [if_neg hji, cell_other _ _ _ _ _ (by omega)]
   exact h.words j hj
theorem SchAt.drewN {w u : World} {nr : Nat} {K : Nat → Nat} (h : SchAt w nr K u) (m : Nat) : SchAt w nr K (u.drewN m) := ⟨Below.drewN h.old m, h.size, h.res, h.room, h.rounds, h.words⟩
theorem Tab.set {u : World} {g i : Nat} (h : Tab u g 0) (v : Value) (hi : i < 61) : Tab (u.setCell ⟨g, i, none⟩ v) g 0 :=
 ⟨fun b hb => by rw [cell_other _ _ _ _ _ (by omega)]; exact h.s b hb, fun b hb => by rw [cell_other _ _ _ _ _ (by omega)]; exact h.u b hb, fun b hb => by rw [cell_other _ _ _ _ _ (by omega)]; exact h.m b hb, fun b hb => by rw [cell_other _ _ _ _ _ (by omega)]; exact h.n b hb⟩
theorem Tab.drewN {u : World} {g o : Nat} (h : Tab u g o) (m : Nat) : Tab (u.drewN m) g o := ⟨h.s, h.u, h.m, h.n⟩
/-- replace: S of each byte of a word. -/
theorem replace_ok (g o x : Nat) (w : World) (hT : Tab w g o) : Calls Tryz.prog 107 #[.pointer (some ⟨g, o, none⟩), .int .u32 (x : Nat)] w fun e w' => e = .returned (.int .u32 (subw x : Nat)) ∧ ∃ m, w' = w.drewN m := by
 obtain ⟨y, HY⟩ : ∃ y, Hid (y = subw x) := ⟨_, rfl⟩
 have K1 : Hid (Calls Tryz.prog 120 #[.pointer (some ⟨g, o, none⟩), .int .u32 (x : Nat), .int .u32 (x : Nat), .int .u32 (x : Nat), .int .u32 (x : Nat)] w fun e w' => e = .returned (.int .u32 (y : Nat)) ∧ ∃ m, w' = w.drewN m) := by
  rw [HY.out]
  exact last_ok g o x x x x _ _ _ _ w (bt0_lt x) (bt1_lt x) (bt2_lt x) (bt3_lt x) (int_bt0 x) (int_bt1 x) (int_bt2 x) (int_bt3 x) hT
 rw [← HY.out]
 clear hT
 go_enter Tryz.func107, Tryz.ntmps107
 go_wp2_with (first | (go_at_call 120; refine K1.out.mono ?_))
 rintro e1 w1 ⟨rfl, m, hw⟩
 go_wp2
 go_ret
 exact ⟨rfl, m, rfl⟩
theorem wordCount_ok (g o nr : Nat) (w : World) (h : w.cell? ⟨g, o, none⟩ = some (.int .i64 (nr : Nat))) (hn : nr ≤ 14) : Calls Tryz.prog 106 #[.pointer (some ⟨g, o, none⟩)] w fun e w' => e = .returned (.int .i64 (4 * (nr + 1) : Nat)) ∧ w' = w := by
 go_enter Tryz.func106, Tryz.ntmps106
 go_wp2
 go_ret
 exact ⟨ret_int (by omega), rfl⟩
end Go.Proofs.YtcnikfikpnnblaaGreatDoor
namespace Go.Proofs.YtcnikfikpnnblaaGreatDoor
open Go.RowKit
set_option linter.unusedVariables false
/-- A schedule that is written down is that of the key, if each of its words follows from those ahead of it. -/
theorem goW_at {nk : Nat} {K0 F : Nat → Nat} (h0 : ∀ j, j < nk → K0 j = F j) (hn : 0 < nk) {M : Nat} (hs : ∀ m, m < M → nextW nk (nk + m) F = F (nk + m)) : ∀ m, m ≤ M → ∀ j, j < nk + m → goW nk K0 m j = F j := by
 intro m
 induction m with
 | zero => exact fun _ j hj => h0 j (by omega)
 | succ m ih =>
  intro hm j hj
  have ih' := ih (by omega)
  unfold goW upd
  by_cases hjm : j = nk + m
  ·rw [if_pos hjm, hjm, ← hs m (by omega)]
   unfold nextW
   rw [ih' (nk + m - nk) (by omega), ih' (nk + m - 1) (by omega)]
  ·rw [if_neg hjm]
   exact ih' j (by omega)
theorem addK_congr {K F : Nat → Nat} {r : Nat} (h : ∀ j, j < 4 * (r + 1) → K j = F j) (s : W4) : addK K r s = addK F r s := by
 unfold addK
 rw [h (4 * r) (by omega), h (4 * r + 1) (by omega), h (4 * r + 2) (by omega), h (4 * r + 3) (by omega)]
theorem iterE_congr {K F : Nat → Nat} (s : W4) (r : Nat) (h : ∀ j, j < 4 * (r + 1) → K j = F j) : iterE K r s = iterE F r s := by
 induction r with
 | zero => rw [iterE_zero, iterE_zero]
 | succ r ih => rw [iterE_succ, iterE_succ, ih (fun j hj => h j (by omega)), addK_congr h]
theorem encW_congr {K F : Nat → Nat} {nr : Nat} (h1 : 1 ≤ nr) (h : ∀ j, j < 4 * (nr + 1) → K j = F j) (s : W4) : encW nr K s = encW nr F s := by
 unfold encW
 rw [addK_congr (r := 0) (fun j hj => h j (by omega)), iterE_congr _ (nr - 1) (fun j hj => h j (by omega)), addK_congr h]
/-- A list of words out of one number. -/
def wordT (n j : Nat) : Nat := Nat.mod (Nat.shiftRight n (Nat.mul 32 j)) 4294967296
def W16 : Nat := 2135183411306450747924455776101631667317021435197242029516822643292385793394556178976294297568553652486272567026286629297947075971482648749057793986447198710817864160694422276215993401979832658662751292340275810678820517951599512784483112403130681781938724593781911744968406893768034920525865760486124286933107695541170726264261124972481373622074072336675592582977578699619304832075701685807426322995989797651311590042042883
def key16 (i : Nat) : Nat := Nat.mod (Nat.shiftRight 20011376718272490338853433276725592320 (Nat.mul 8 i)) 256
theorem W16_key : ∀ j : Fin 4, keyW key16 16 j.1 = wordT W16 j.1 := by decide +kernel
theorem W16_next : ∀ m : Fin 40, nextW 4 (4 + m.1) (wordT W16) = wordT W16 (4 + m.1) := by decide +kernel
theorem sched16 : ∀ j, j < 44 → schedK 4 key16 j = wordT W16 j := fun j hj =>
 goW_at (fun j hj => W16_key ⟨j, hj⟩) (by decide) (M := 40) (fun m hm => W16_next ⟨m, hm⟩) 40 (Nat.le_refl _) j (by omega)
def W24 : Nat := 729328934795255555490277851006730375856188269561163575406021219476903401627521025716984479554611303630301180246252225068864986183027940516296883972211032065994115010788029758665927779365528380332424018344531848639015454836505358409328253008345992468745886702614064518615513767017199666280190800970210691493213224184692499272855399702965942998223869555410042228926578153626562128278023057192759156250679943918747124702184545746189071564077277751059192648854853476604783356490128425658539062275606643203
def key24 (i : Nat) : Nat := Nat.mod (Nat.shiftRight 566073426779046459040877649791461066728553822781039575296 (Nat.mul 8 i)) 256
theorem W24_key : ∀ j : Fin 6, keyW key24 24 j.1 = wordT W24 j.1 := by decide +kernel
theorem W24_next : ∀ m : Fin 46, nextW 6 (6 + m.1) (wordT W24) = wordT W24 (6 + m.1) := by decide +kernel
theorem sched24 : ∀ j, j < 52 → schedK 6 key24 j = wordT W24 j := fun j hj =>
 goW_at (fun j hj => W24_key ⟨j, hj⟩) (by decide) (M := 46) (fun m hm => W24_next ⟨m, hm⟩) 46 (Nat.le_refl _) j (by omega)
def W32 : Nat := 40588901833789785159217277571222803699713122000033715455120290826434294749228737489858619682393124213434237382448684798201429199859042181465691985922769736547614597994086458994488101378311087064657394489849946737440617656986741278393373241810245004935003052300679918820526303281682444060725392835778184555668714201509861331811386879129221345592586309791718563399891105740675620352127312404174940521730267585763785796873970309904313455019118516937793663314812563166091624445326649780233741323562049636414094104325048685980178953483258441415514281378694392646619490463384516755971
def key32 (i : Nat) : Nat := Nat.mod (Nat.shiftRight 14074904626401341155369551180448584754667373453244490859944217516317499064576 (Nat.mul 8 i)) 256
theorem W32_key : ∀ j : Fin 8, keyW key32 32 j.1 = wordT W32 j.1 := by decide +kernel
theorem W32_next : ∀ m : Fin 52, nextW 8 (8 + m.1) (wordT W32) = wordT W32 (8 + m.1) := by decide +kernel
theorem sched32 : ∀ j, j < 60 → schedK 8 key32 j = wordT W32 j := fun j hj =>
 goW_at (fun j hj => W32_key ⟨j, hj⟩) (by decide) (M := 52) (fun m hm => W32_next ⟨m, hm⟩) 52 (Nat.le_refl _) j (by omega)
def W3 : Nat := 5046468880051722124165138377573495752352814026446080871608016796122220429082579000232600314235784662476030427341372658306567627449033442801373289480869096360226894485099629028185229497190130648053266891598727969131253797210077642090429746202649527074628884158587131746570320957489095398094032979503431341887810050553743204897050105276776682016117297116796442808330014977125357325912016584471395215433345801901684693189661974
def key3 (i : Nat) : Nat := Nat.mod (Nat.shiftRight 80168070412877140649889332058278690347 (Nat.mul 8 i)) 256
theorem W3_key : ∀ j : Fin 4, keyW key3 16 j.1 = wordT W3 j.1 := by decide +kernel
theorem W3_next : ∀ m : Fin 40, nextW 4 (4 + m.1) (wordT W3) = wordT W3 (4 + m.1) := by decide +kernel
theorem sched3 : ∀ j, j < 44 → schedK 4 key3 j = wordT W3 j := fun j hj =>
 goW_at (fun j hj => W3_key ⟨j, hj⟩) (by decide) (M := 40) (fun m hm => W3_next ⟨m, hm⟩) 40 (Nat.le_refl _) j (by omega)
theorem vec16 : encW 10 (wordT W16) ⟨1122867, 1146447479, 2291772091, 3437096703⟩ = ⟨1774510296, 1786446896, 3637360512, 1890895194⟩ := by
 have h : (encW 10 (wordT W16) ⟨1122867, 1146447479, 2291772091, 3437096703⟩).a = 1774510296 ∧ (encW 10 (wordT W16) ⟨1122867, 1146447479, 2291772091, 3437096703⟩).b = 1786446896 ∧ (encW 10 (wordT W16) ⟨1122867, 1146447479, 2291772091, 3437096703⟩).c = 3637360512 ∧ (encW 10 (wordT W16) ⟨1122867, 1146447479, 2291772091, 3437096703⟩).d = 1890895194 := by decide +kernel
 obtain ⟨a, b, c, d⟩ := h
 generalize encW 10 (wordT W16) ⟨1122867, 1146447479, 2291772091, 3437096703⟩ = x at a b c d
 cases x
 simp only at a b c d
 rw [a, b, c, d]
theorem vec24 : encW 12 (wordT W24) ⟨1122867, 1146447479, 2291772091, 3437096703⟩ = ⟨3718872228, 2253184992, 1856991392, 3960304017⟩ := by
 have h : (encW 12 (wordT W24) ⟨1122867, 1146447479, 2291772091, 3437096703⟩).a = 3718872228 ∧ (encW 12 (wordT W24) ⟨1122867, 1146447479, 2291772091, 3437096703⟩).b = 2253184992 ∧ (encW 12 (wordT W24) ⟨1122867, 1146447479, 2291772091, 3437096703⟩).c = 1856991392 ∧ (encW 12 (wordT W24) ⟨1122867, 1146447479, 2291772091, 3437096703⟩).d = 3960304017 := by decide +kernel
 obtain ⟨a, b, c, d⟩ := h
 generalize encW 12 (wordT W24) ⟨1122867, 1146447479, 2291772091, 3437096703⟩ = x at a b c d
 cases x
 simp only at a b c d
 rw [a, b, c, d]
theorem vec32 : encW 14 (wordT W32) ⟨1122867, 1146447479, 2291772091, 3437096703⟩ = ⟨2393028554, 1365722559, 3942402448, 1263100041⟩ := by
 have h : (encW 14 (wordT W32) ⟨1122867, 1146447479, 2291772091, 3437096703⟩).a = 2393028554 ∧ (encW 14 (wordT W32) ⟨1122867, 1146447479, 2291772091, 3437096703⟩).b = 1365722559 ∧ (encW 14 (wordT W32) ⟨1122867, 1146447479, 2291772091, 3437096703⟩).c = 3942402448 ∧ (encW 14 (wordT W32) ⟨1122867, 1146447479, 2291772091, 3437096703⟩).d = 1263100041 := by decide +kernel
 obtain ⟨a, b, c, d⟩ := h
 generalize encW 14 (wordT W32) ⟨1122867, 1146447479, 2291772091, 3437096703⟩ = x at a b c d
 cases x
 simp only at a b c d
 rw [a, b, c, d]
end Go.Proofs.YtcnikfikpnnblaaGreatDoor
namespace Go.Proofs.YtcnikfikpnnblaaGreatDoor
open Go.RowKit
set_option linter.unusedVariables false
/-- The bytes of a word, the highest first. -/
def btn (x : Nat) : Nat → Nat
 | 0 => bt0 x
 | 1 => bt1 x
 | 2 => bt2 x
 | _ => bt3 x
theorem btn0 (x : Nat) : btn x 0 = bt0 x := rfl
theorem btn1 (x : Nat) : btn x 1 = bt1 x := rfl
theorem btn2 (x : Nat) : btn x 2 = bt2 x := rfl
theorem btn3 (x : Nat) : btn x 3 = bt3 x := rfl
theorem btn_lt (x j : Nat) : btn x j < 256 := by
 unfold btn
 split <;> first | exact bt0_lt x | exact bt1_lt x | exact bt2_lt x | exact bt3_lt x
/-- A schedule's bytes, one behind the other. -/
def rb (K : Nat → Nat) (j : Nat) : Nat := btn (K (j / 4)) (j % 4)
theorem rb_lt (K : Nat → Nat) (j : Nat) : rb K j < 256 := btn_lt _ _
theorem rb_at (K : Nat → Nat) (i : Nat) : rb K (4 * i) = bt0 (K i) ∧ rb K (4 * i + 1) = bt1 (K i) ∧ rb K (4 * i + 2) = bt2 (K i) ∧ rb K (4 * i + 3) = bt3 (K i) := by
 refine ⟨?_, ?_, ?_, ?_⟩ <;> unfold rb
 ·rw [show 4 * i / 4 = i by omega, show 4 * i % 4 = 0 by omega]; exact btn0 _
 ·rw [show (4 * i + 1) / 4 = i by omega, show (4 * i + 1) % 4 = 1 by omega]; rfl
 ·rw [show (4 * i + 2) / 4 = i by omega, show (4 * i + 2) % 4 = 2 by omega]; rfl
 ·rw [show (4 * i + 3) / 4 = i by omega, show (4 * i + 3) % 4 = 3 by omega]; rfl
theorem rb_wd (K : Nat → Nat) (i : Nat) (h : K i < 4294967296) : wd (rb K (4 * i)) (rb K (4 * i + 1)) (rb K (4 * i + 2)) (rb K (4 * i + 3)) = K i := by
 obtain ⟨a, b, c, d⟩ := rb_at K i
 rw [a, b, c, d]
 exact wd_bt h
theorem goW_old (nk : Nat) (K0 : Nat → Nat) : ∀ m j, j < nk → goW nk K0 m j = K0 j
 | 0, j, _ => rfl
 | m + 1, j, h => by
  unfold goW upd
  rw [if_neg (by omega)]
  exact goW_old nk K0 m j h
theorem goW_stay (nk : Nat) (K0 : Nat → Nat) (m : Nat) : ∀ d j, j < nk + m → goW nk K0 (m + d) j = goW nk K0 m j
 | 0, j, _ => rfl
 | d + 1, j, h => by
  show goW nk K0 (m + d + 1) j = _
  rw [goW]
  unfold upd
  rw [if_neg (by omega)]
  exact goW_stay nk K0 m d j h
theorem goW_next (nk : Nat) (hn : 0 < nk) (K0 : Nat → Nat) (M m : Nat) (h : m < M) : goW nk K0 M (nk + m) = nextW nk (nk + m) (goW nk K0 M) := by
 have e : M = m + 1 + (M - m - 1) := by omega
 have h1 : goW nk K0 M (nk + m) = nextW nk (nk + m) (goW nk K0 m) := by
  rw [e, goW_stay nk K0 (m + 1) _ _ (by omega), goW]
  unfold upd
  rw [if_pos rfl]
 rw [h1]
 unfold nextW
 have e2 : M = m + (M - m) := by omega
 have h2 : goW nk K0 M (nk + m - nk) = goW nk K0 m (nk + m - nk) := by rw [e2, goW_stay nk K0 m _ _ (by omega)]
 have h3 : goW nk K0 M (nk + m - 1) = goW nk K0 m (nk + m - 1) := by rw [e2, goW_stay nk K0 m _ _ (by omega)]
 rw [h2, h3]
theorem schedK_next (nk : Nat) (hn : 0 < nk) (key : Nat → Nat) (i : Nat) (h1 : nk ≤ i) (h2 : i < 4 * nk + 28) : schedK nk key i = nextW nk i (schedK nk key) := by
 have := goW_next nk hn (keyW key (4 * nk)) (3 * nk + 28) (i - nk) (by omega)
 rw [show nk + (i - nk) = i by omega] at this
 exact this
/-- The key's own words: four bytes each. -/
theorem keyW_part (key : Nat → Nat) (hk : ∀ i, key i < 256) (q : Nat) : ∀ i,
  (i ≤ 4 * q → keyW key i q = 0) ∧ (i = 4 * q + 1 → keyW key i q = key (4 * q)) ∧ (i = 4 * q + 2 → keyW key i q = key (4 * q) * 256 + key (4 * q + 1)) ∧ (i = 4 * q + 3 → keyW key i q = (key (4 * q) * 256 + key (4 * q + 1)) * 256 + key (4 * q + 2)) ∧ (4 * q + 4 ≤ i → keyW key i q = wd (key (4 * q)) (key (4 * q + 1)) (key (4 * q + 2)) (key (4 * q + 3))) := by
 intro i
 induction i with
 | zero => exact ⟨fun _ => rfl, by omega, by omega, by omega, by omega⟩
 | succ i ih =>
  obtain ⟨a0, a1, a2, a3, a4⟩ := ih
  have k0 := hk (4 * q)
  have k1 := hk (4 * q + 1)
  have k2 := hk (4 * q + 2)
  have k3 := hk (4 * q + 3)
  refine ⟨fun h => ?_, fun h => ?_, fun h => ?_, fun h => ?_, fun h => ?_⟩ <;> unfold keyW upd
  ·rw [if_neg (by omega)]; exact a0 (by omega)
  ·obtain rfl : i = 4 * q := by omega
   rw [if_pos (by omega), show 4 * q / 4 = q by omega, a0 (by omega)]; omega
  ·obtain rfl : i = 4 * q + 1 := by omega
   rw [if_pos (by omega), show (4 * q + 1) / 4 = q by omega, a1 rfl]; omega
  ·obtain rfl : i = 4 * q + 2 := by omega
   rw [if_pos (by omega), show (4 * q + 2) / 4 = q by omega, a2 rfl]; omega
  ·by_cases h3 : i = 4 * q + 3
   ·subst h3
    rw [if_pos (by omega), show (4 * q + 3) / 4 = q by omega, a3 rfl]; unfold wd; omega
   ·rw [if_neg (by omega)]; exact a4 (by omega)
theorem rb_key (nk : Nat) (key : Nat → Nat) (hk : ∀ i, key i < 256) (j : Nat) (h : j < 4 * nk) : rb (schedK nk key) j = key j := by
 have h1 : schedK nk key (j / 4) = wd (key (4 * (j / 4))) (key (4 * (j / 4) + 1)) (key (4 * (j / 4) + 2)) (key (4 * (j / 4) + 3)) := by
  unfold schedK
  rw [goW_old nk _ _ _ (by omega)]
  exact (keyW_part key hk (j / 4) (4 * nk)).2.2.2.2 (by omega)
 obtain ⟨b0, b1, b2, b3⟩ := bt_wd (hk (4 * (j / 4))) (hk (4 * (j / 4) + 1)) (hk (4 * (j / 4) + 2)) (hk (4 * (j / 4) + 3))
 unfold rb
 rw [h1]
 have hm : j % 4 = 0 ∨ j % 4 = 1 ∨ j % 4 = 2 ∨ j % 4 = 3 := by omega
 rcases hm with e | e | e | e <;> rw [e]
 ·rw [btn0, b0]; exact congrArg key (by omega)
 ·rw [btn1, b1]; exact congrArg key (by omega)
 ·rw [btn2, b2]; exact congrArg key (by omega)
 ·rw [btn3, b3]; exact congrArg key (by omega)
/-- The round constants as powers. -/
def rcP : Nat → Nat
 | 0 => 1
 | m + 1 => tmsN 8 0 (rcP m) 2
theorem rcP_lt : ∀ m, rcP m < 256
 | 0 => by decide
 | m + 1 => times_lt (rcP_lt m) (by decide)
theorem rcP_rc : ∀ m : Fin 10, rcP m.1 = rcT m.1 := by decide +kernel
/-- What the word behind is added with: four bytes. -/
def tB (nk i : Nat) (K : Nat → Nat) (c : Nat) : Nat :=
 if i % nk = 0 then Nat.xor (SB (rb K (4 * i - 4 + (c + 1) % 4))) (if c = 0 then rcP ((i - 1) / nk) else 0)
 else if nk = 8 ∧ i % 8 = 4 then SB (rb K (4 * i - 4 + c)) else rb K (4 * i - 4 + c)
theorem xor_zero8 (a : Nat) : Nat.xor a 0 = a := Nat.xor_zero a
theorem tB_lt (nk i : Nat) (K : Nat → Nat) (c : Nat) : tB nk i K c < 256 := by
 unfold tB
 split
 ·split
  ·exact xor_lt8 (SB_lt _) (rcP_lt _)
  ·rw [xor_zero8]; exact SB_lt _
 ·split
  ·exact SB_lt _
  ·exact rb_lt _ _
theorem next_tB (nk i : Nat) (hnk : nk = 4 ∨ nk = 6 ∨ nk = 8) (h1 : nk ≤ i) (h2 : i < 4 * nk + 28) (K : Nat → Nat) (hK : ∀ j, K j < 4294967296) : nextW nk i K = Nat.xor (K (i - nk)) (wd (tB nk i K 0) (tB nk i K 1) (tB nk i K 2) (tB nk i K 3)) := by
 have hi : 1 ≤ i := by omega
 obtain ⟨p, hp⟩ : ∃ p, i = p + 1 := ⟨i - 1, by omega⟩
 subst hp
 obtain ⟨r0, r1, r2, r3⟩ := rb_at K p
 have e0 : 4 * (p + 1) - 4 = 4 * p := by omega
 unfold nextW
 congr 1
 simp only [tB, e0, Nat.add_sub_cancel]
 by_cases hz : (p + 1) % nk = 0
 ·have hc : rcT ((p + 1) / nk - 1) = rcP (p / nk) := by
   have hq : (p + 1) / nk - 1 = p / nk ∧ p / nk < 10 := by rcases hnk with rfl | rfl | rfl <;> omega
   rw [hq.1]
   exact (rcP_rc ⟨p / nk, hq.2⟩).symm
  have hcl := rcP_lt (p / nk)
  rw [if_pos hz, if_pos hz, if_pos hz, if_pos hz, if_pos hz, hc]
  simp only [if_true, show (1 = 0) = False by simp, show (2 = 0) = False by simp, show (3 = 0) = False by simp, if_false, xor_zero8, show (0 + 1) % 4 = 1 from rfl, show (1 + 1) % 4 = 2 from rfl, show (2 + 1) % 4 = 3 from rfl, show (3 + 1) % 4 = 0 from rfl, Nat.add_zero, r0, r1, r2, r3]
  obtain ⟨b0, b1, b2, b3⟩ := bt_wd (bt1_lt (K p)) (bt2_lt (K p)) (bt3_lt (K p)) (bt0_lt (K p))
  have hs : subw (rotw (K p)) = wd (SB (bt1 (K p))) (SB (bt2 (K p))) (SB (bt3 (K p))) (SB (bt0 (K p))) := by
   unfold subw lastw rotw
   rw [b0, b1, b2, b3]
  have hr : rcP (p / nk) * 16777216 = wd (rcP (p / nk)) 0 0 0 := by unfold wd; omega
  rw [hs, hr, wd_xor _ _ _ _ _ _ _ _ (SB_lt _) (SB_lt _) (SB_lt _) (by decide) (by decide) (by decide), xor_zero8, xor_zero8, xor_zero8]
 ·rw [if_neg hz, if_neg hz, if_neg hz, if_neg hz, if_neg hz]
  simp only [Nat.add_zero, r0, r1, r2, r3]
  by_cases h8 : nk = 8 ∧ (p + 1) % 8 = 4
  ·rw [if_pos h8, if_pos h8, if_pos h8, if_pos h8, if_pos h8]
   rfl
  ·rw [if_neg h8, if_neg h8, if_neg h8, if_neg h8, if_neg h8]
   exact (wd_bt (hK p)).symm
theorem rb_next (nk : Nat) (hnk : nk = 4 ∨ nk = 6 ∨ nk = 8) (key : Nat → Nat) (hk : ∀ i, key i < 256) (i c : Nat) (h1 : nk ≤ i) (h2 : i < 4 * nk + 28) (hc : c < 4) :
  rb (schedK nk key) (4 * i + c) = Nat.xor (rb (schedK nk key) (4 * (i - nk) + c)) (tB nk i (schedK nk key) c) := by
 have hK := schedK_lt (nk := nk) hk
 have e := schedK_next nk (by omega) key i h1 h2
 rw [next_tB nk i hnk h1 h2 _ hK] at e
 generalize schedK nk key = K at *
 have a := wd_bt (hK (i - nk))
 rw [← a, wd_xor _ _ _ _ _ _ _ _ (bt1_lt _) (bt2_lt _) (bt3_lt _) (tB_lt _ _ _ _) (tB_lt _ _ _ _) (tB_lt _ _ _ _)] at e
 obtain ⟨b0, b1, b2, b3⟩ := bt_wd (xor_lt8 (bt0_lt (K (i - nk))) (tB_lt nk i K 0)) (xor_lt8 (bt1_lt (K (i - nk))) (tB_lt nk i K 1)) (xor_lt8 (bt2_lt (K (i - nk))) (tB_lt nk i K 2)) (xor_lt8 (bt3_lt (K (i - nk))) (tB_lt nk i K 3))
 obtain ⟨r0, r1, r2, r3⟩ := rb_at K i
 obtain ⟨s0, s1, s2, s3⟩ := rb_at K (i - nk)
 rw [← e] at b0 b1 b2 b3
 have hm : c = 0 ∨ c = 1 ∨ c = 2 ∨ c = 3 := by omega
 rcases hm with rfl | rfl | rfl | rfl
 ·rw [Nat.add_zero, Nat.add_zero, r0, s0]; exact b0
 ·rw [r1, s1]; exact b1
 ·rw [r2, s2]; exact b2
 ·rw [r3, s3]; exact b3
end Go.Proofs.YtcnikfikpnnblaaGreatDoor
namespace Go.Proofs.YtcnikfikpnnblaaGreatDoor
open Go.RowKit
set_option linter.unusedVariables false
/-- S and its inverse as cells. -/
def sbL : List Value := (List.range 256).map fun j => .int .u8 (SB j : Nat)
def ubL : List Value := (List.range 256).map fun j => .int .u8 (UB j : Nat)
theorem sbL_at (j : Nat) (h : j < 256) : sbL[j]? = some (.int .u8 (SB j : Nat)) := by simp [sbL, h]
theorem ubL_at (j : Nat) (h : j < 256) : ubL[j]? = some (.int .u8 (UB j : Nat)) := by simp [ubL, h]
theorem sbL_len : sbL.length = 256 := by simp [sbL]
theorem ubL_len : ubL.length = 256 := by simp [ubL]
theorem sbL_one : sbL.toArray.all (·.oneCell') = true := all_oneCell_toArray (fun v hv => by
 simp only [sbL, List.mem_map] at hv
 obtain ⟨j, _, rfl⟩ := hv
 rfl)
theorem ubL_one : ubL.toArray.all (·.oneCell') = true := all_oneCell_toArray (fun v hv => by
 simp only [ubL, List.mem_map] at hv
 obtain ⟨j, _, rfl⟩ := hv
 rfl)
theorem sbL_range {w : World} {b o : Nat} (h : ∀ j, j < 256 → w.cell? ⟨b, o + j, none⟩ = some (.int .u8 (SB j : Nat))) : w.rangeAt b o sbL := fun j v hv => by
 have hj : j < 256 := by have := (List.getElem?_eq_some_iff.1 hv).1; rw [sbL_len] at this; exact this
 rw [sbL_at j hj] at hv
 rw [h j hj]; exact hv
theorem ubL_range {w : World} {b o : Nat} (h : ∀ j, j < 256 → w.cell? ⟨b, o + j, none⟩ = some (.int .u8 (UB j : Nat))) : w.rangeAt b o ubL := fun j v hv => by
 have hj : j < 256 := by have := (List.getElem?_eq_some_iff.1 hv).1; rw [ubL_len] at this; exact this
 rw [ubL_at j hj] at hv
 rw [h j hj]; exact hv
theorem size65 : (Tryz.prog.info? 143).map (·.size) = some 256 := by kernel_rfl
theorem zsize65 : Tryz.zeroCells143.size = 256 := by kernel_rfl
/-- What stands while the boxes are filled. -/
structure BxS (w : World) (b1 b2 b3 : Nat) (u : World) : Prop where
 old : Below w.heap.size w u
 r0 : u.there w.heap.size 0 256
 r1 : u.there b1 0 256
 s : u.there b2 0 256
 t : u.there b3 0 256
theorem BxS.set {w u : World} {b1 b2 b3 : Nat} (h : BxS w b1 b2 b3 u) (b j : Nat) (v : Value) (hb : w.heap.size ≤ b) : BxS w b1 b2 b3 (u.setCell ⟨b, j, none⟩ v) :=
 ⟨h.old.setCell hb _, World.there_setCells h.r0 _ _ [_], World.there_setCells h.r1 _ _ [_], World.there_setCells h.s _ _ [_], World.there_setCells h.t _ _ [_]⟩
theorem bx_start (w : World) (C : Array Value) (hC : C.size = 256) : BxS w (w.heap.size + 1) (w.heap.size + 1 + 1) (w.heap.size + 1 + 1 + 1) ((((w.alloc (.cells C 143)).alloc (.cells C 143)).alloc (.cells C 143)).alloc (.cells C 143)) := by
 have hl : 256 ≤ C.size := by omega
 have s1 : (w.alloc (.cells C 143)).heap.size = w.heap.size + 1 := by simp
 have s2 : ((w.alloc (.cells C 143)).alloc (.cells C 143)).heap.size = w.heap.size + 1 + 1 := by simp
 have s3 : (((w.alloc (.cells C 143)).alloc (.cells C 143)).alloc (.cells C 143)).heap.size = w.heap.size + 1 + 1 + 1 := by simp
 refine ⟨((((Below.refl _ w).alloc (Nat.le_refl _) _).alloc (by omega) _).alloc (by omega) _).alloc (by omega) _, ?_, ?_, ?_, ?_⟩
 ·exact World.there_alloc (World.there_alloc (World.there_alloc (there_new w C 143 256 hl) _) _) _
 ·have := there_new (w.alloc (.cells C 143)) C 143 256 hl
  rw [s1] at this
  exact World.there_alloc (World.there_alloc this _) _
 ·have := there_new ((w.alloc (.cells C 143)).alloc (.cells C 143)) C 143 256 hl
  rw [s2] at this
  exact World.there_alloc this _
 ·have := there_new (((w.alloc (.cells C 143)).alloc (.cells C 143)).alloc (.cells C 143)) C 143 256 hl
  rw [s3] at this
  exact this
theorem there_cell {w : World} {b n : Nat} (h : w.there b 0 n) (j : Nat) (hj : j < n) : ∃ v, w.cell? ⟨b, j, none⟩ = some v := by
 have := (h j hj).1
 rw [Nat.zero_add] at this
 exact Option.isSome_iff_exists.1 this
theorem there_froz {w : World} {b n : Nat} (h : w.there b 0 n) (j : Nat) (hj : j < n) : w.frozen? ⟨b, j, none⟩ = false := by
 have := (h j hj).2
 rw [Nat.zero_add] at this
 exact this
theorem set_same {w : World} {b n j : Nat} (v : Value) (h : w.there b 0 n) (hj : j < n) : (w.setCell ⟨b, j, none⟩ v).cell? ⟨b, j, none⟩ = some v := by
 have := cell_same (i := j) v h hj
 rw [Nat.zero_add] at this
 exact this
theorem results_cell_cell {fn : Func} {p u : Tmp} {ty : TypeId} (h : fn.results = #[.cell p ty, .cell u ty]) (tmps : Array Value) (P : Program) (w : World) :
  (results fn tmps).run P w =
   ((asAddr (tmps.getD p undef)).run P w).andThen fun a w₁ => ((loadVar ty a).run P w₁).andThen fun v w₂ => ((asAddr (tmps.getD u undef)).run P w₂).andThen fun c w₃ => ((loadVar ty c).run P w₃).andThen fun x w₄ => .ok (.tuple #[v, x]) w₄ := by
 simp only [results, h]
 simp [Sem.run_bind, Result.andThen]
theorem ret_cells2 {P : Program} {fn : Func} {p t : Tmp} {ty : TypeId} {d : TypeDesc} {Q : Ending → World → Prop} {tmps : Array Value} {w : World} {b c : Nat} (cs ds : List Value) (h : fn.results = #[.cell p ty, .cell t ty])
  (hp : tmps.getD p undef = .pointer (some ⟨b, 0, none⟩)) (ht : tmps.getD t undef = .pointer (some ⟨c, 0, none⟩)) (hr : w.rangeAt b 0 cs) (hs : w.rangeAt c 0 ds) (hu : P.underlying ty = some d) (hd : d.isRow = true) (hi : (P.info? ty).map (·.size) = some cs.length) (hj : (P.info? ty).map (·.size) = some ds.length)
  (hq : Q (.returned (.tuple #[.agg cs.toArray, .agg ds.toArray])) w) : bodyPost P fn Q .ret ⟨tmps, []⟩ w := by
 refine bodyPost_ret (v := .tuple #[.agg cs.toArray, .agg ds.toArray]) ?_ rfl hq
 rw [results_cell_cell h]
 have hl := run_loadVar_mid (P := P) w b 0 ty cs d hr hu hd hi
 have hm := run_loadVar_mid (P := P) w c 0 ty ds d hs hu hd hj
 simp [hp, ht, asAddr, hl, hm]
set_option maxHeartbeats 1600000 in
set_option maxRecDepth 100000 in
theorem boxes_ok (w : World) : Calls Tryz.prog 102 #[] w fun e w' => e = .returned (.tuple #[.agg sbL.toArray, .agg ubL.toArray]) ∧ Below w.heap.size w w' := by
 have HB := bx_start w Tryz.zeroCells143 zsize65
 go_enter Tryz.func102, Tryz.ntmps102
 go_wp2
 have HI : Hid (BxS w (w.heap.size + 1) (w.heap.size + 1 + 1) (w.heap.size + 1 + 1 + 1) ((((w.alloc (.cells Tryz.zeroCells143 143)).alloc (.cells Tryz.zeroCells143 143)).alloc (.cells Tryz.zeroCells143 143)).alloc (.cells Tryz.zeroCells143 143))) := HB
 clear HB
 generalize ((((w.alloc (.cells Tryz.zeroCells143 143)).alloc (.cells Tryz.zeroCells143 143)).alloc (.cells Tryz.zeroCells143 143)).alloc (.cells Tryz.zeroCells143 143)) = w4 at HI ⊢
 obtain ⟨b3, HB3⟩ : ∃ b, Hid (w.heap.size + 1 + 1 + 1 = b) := ⟨_, rfl⟩
 obtain ⟨b2, HB2⟩ : ∃ b, Hid (w.heap.size + 1 + 1 = b) := ⟨_, rfl⟩
 obtain ⟨b1, HB1⟩ : ∃ b, Hid (w.heap.size + 1 = b) := ⟨_, rfl⟩
 rw [HB3.out, HB2.out, HB1.out] at HI ⊢
 have HBB : Hid (w.heap.size < b1 ∧ b1 < b2 ∧ b2 < b3) := ⟨by have := HB1.out; omega, by have := HB1.out; have := HB2.out; omega, by have := HB2.out; have := HB3.out; omega⟩
 clear HB1 HB2 HB3
 go_loopw [4, 5, 6] (fun b y i wr => ∃ k : Nat, k ≤ 255 ∧ i = .int .i64 k ∧ b = .int .u8 (pwT k : Nat) ∧ y = .int .u8 (ivT k : Nat) ∧ Hid (BxS w b1 b2 b3 wr ∧ ∀ j, j < k → wr.cell? ⟨b2, pwT j, none⟩ = some (.int .u8 (SB (pwT j) : Nat)))) (fun _ _ i _ => 255 - (intOf i).toNat)
 case atStart => exact ⟨0, by omega, rfl, rfl, rfl, HI.out, fun j hj => by omega⟩
 case round =>
  obtain ⟨k, hk, rfl, rfl, rfl, HR⟩ := hrel
  by_cases hlt : k < 255
  ·obtain ⟨e1, e2, e3⟩ := pw_step ⟨k, hlt⟩
   simp only at e1 e2 e3
   obtain ⟨p, HP⟩ : ∃ p, Hid (p = pwT k) := ⟨_, rfl⟩
   obtain ⟨v, HV⟩ : ∃ p, Hid (p = ivT k) := ⟨_, rfl⟩
   have hp : p < 256 := by rw [HP.out]; exact pwT_lt k
   have hv : v < 256 := by rw [HV.out]; exact ivT_lt k
   have K1 : Hid (∀ u, Calls Tryz.prog 165 #[.int .i64 (v : Nat)] u fun e u' => e = .returned (.int .u8 (SB p : Nat)) ∧ u' = u) := fun u => (refBits_ok v hv u).mono fun e u' ⟨z, _, hz, h1, h2⟩ => ⟨by rw [h1, hz.out, HV.out, e3, HP.out], h2⟩
   have K3 : Hid (∀ u, Calls Tryz.prog 103 #[.int .u8 (p : Nat), .int .u8 3] u fun e u' => e = .returned (.int .u8 (pwT (k + 1) : Nat)) ∧ u' = u) := fun u => (refTimes p 3 hp (by decide) u).mono fun e u' ⟨h1, h2⟩ => ⟨by rw [h1, HP.out, e1], h2⟩
   have K4 : Hid (∀ u, Calls Tryz.prog 103 #[.int .u8 (v : Nat), .int .u8 246] u fun e u' => e = .returned (.int .u8 (ivT (k + 1) : Nat)) ∧ u' = u) := fun u => (refTimes v 246 hv (by decide) u).mono fun e u' ⟨h1, h2⟩ => ⟨by rw [h1, HV.out, e2], h2⟩
   clear e1 e2 e3
   obtain ⟨p', HP'⟩ : ∃ p, Hid (p = pwT (k + 1)) := ⟨_, rfl⟩
   obtain ⟨v', HV'⟩ : ∃ p, Hid (p = ivT (k + 1)) := ⟨_, rfl⟩
   rw [← HP'.out] at K3
   rw [← HV'.out] at K4
   rw [← HP.out, ← HV.out]
   obtain ⟨c0, hc0⟩ := there_cell HR.out.1.s p hp
   have hf0 := there_froz HR.out.1.s p hp
   have hpi : ((p : Nat) : Int) < 256 := by omega
   have hvi : IntKind.i64.wrap ((v : Nat) : Int) = ((v : Nat) : Int) := wraps_i64 _ (by omega) (by omega)
   go_wp2_with (first | (go_at_call 165; (refine (K1.out _).mono ?_); (rintro e2 w2 ⟨rfl, hw2⟩; obtain rfl := hw2.symm)) | (go_at_call 103; (refine (K3.out _).mono ?_)))
   rintro e4 w4 ⟨rfl, hw4⟩
   obtain rfl := hw4.symm
   go_wp2_with (first | (go_at_call 103; (refine (K4.out _).mono ?_)))
   rintro e5 w5 ⟨rfl, hw5⟩
   obtain rfl := hw5.symm
   go_wp2
   refine ⟨⟨k + 1, by omega, rfl, by rw [HP'.out], by rw [HV'.out], HR.out.1.set _ _ _ (by have := HBB.out; omega), fun j hj => ?_⟩, ?_⟩
   ·by_cases hjk : p = pwT j
    ·rw [← hjk]; exact set_same _ HR.out.1.s hp
    ·have hj' : j < k := by
      rcases Nat.lt_or_ge j k with h | h
      ·exact h
      ·exact absurd (show p = pwT j by rw [show j = k by omega]; exact HP.out) hjk
     rw [cell_other _ _ _ _ _ hjk]
     exact HR.out.2 j hj'
   ·simp only [intOf]; omega
  ·obtain rfl : k = 255 := by omega
   clear hlt hk
   obtain ⟨p, HP⟩ : ∃ p, Hid (p = pwT 255) := ⟨_, rfl⟩
   obtain ⟨v, HV⟩ : ∃ p, Hid (p = ivT 255) := ⟨_, rfl⟩
   rw [← HP.out, ← HV.out]
   have K1 : Hid (∀ u, Calls Tryz.prog 165 #[.int .i64 0] u fun e u' => e = .returned (.int .u8 (SB 0 : Nat)) ∧ u' = u) := fun u => (refBits_ok 0 (by decide) u).mono fun e u' ⟨z, _, hz, h1, h2⟩ => ⟨by rw [h1, hz.out]; exact congrArg (fun n : Nat => Ending.returned (.int .u8 (n : Nat))) (by decide +kernel : sprN 0 = SB 0), h2⟩
   obtain ⟨z0, HZ0⟩ : ∃ p, Hid (p = SB 0) := ⟨_, rfl⟩
   rw [← HZ0.out] at K1
   obtain ⟨c0, hc0⟩ := there_cell HR.out.1.s 0 (by decide)
   have hf0 := there_froz HR.out.1.s 0 (by decide)
   go_wp2_with (first | (go_at_call 165; (refine (K1.out _).mono ?_); (rintro e2 w2 ⟨rfl, hw2⟩; obtain rfl := hw2.symm)))
   have H2 : Hid (BxS w b1 b2 b3 (wr.setCell ⟨b2, 0, none⟩ (.int .u8 (z0 : Nat))) ∧ ∀ j, j < 256 → (wr.setCell ⟨b2, 0, none⟩ (.int .u8 (z0 : Nat))).cell? ⟨b2, j, none⟩ = some (.int .u8 (SB j : Nat))) := by
    refine ⟨HR.out.1.set _ _ _ (by have := HBB.out; omega), fun j hj => ?_⟩
    by_cases h0 : j = 0
    ·subst h0; rw [HZ0.out]; exact set_same _ HR.out.1.s (by decide)
    ·rw [cell_other _ _ _ _ _ (fun h => h0 h.symm)]
     rcases lg_all ⟨j, hj⟩ with h | ⟨h1, h2⟩
     ·exact absurd h h0
     ·simp only at h1 h2
      have := HR.out.2 _ h1
      rw [h2] at this
      exact this
   clear HR hc0 hf0 K1
   generalize wr.setCell ⟨b2, 0, none⟩ (.int .u8 (z0 : Nat)) = w5 at H2 ⊢
   go_loopw [7] (fun i wr => ∃ k : Nat, k ≤ 256 ∧ i = .int .i64 k ∧ Hid (BxS w b1 b2 b3 wr ∧ (∀ j, j < 256 → wr.cell? ⟨b2, j, none⟩ = some (.int .u8 (SB j : Nat))) ∧ ∀ j, j < k → wr.cell? ⟨b3, SB j, none⟩ = some (.int .u8 (j : Nat)))) (fun i _ => 256 - (intOf i).toNat)
   case atStart => exact ⟨0, by omega, rfl, H2.out.1, H2.out.2, fun j hj => by omega⟩
   case round =>
    obtain ⟨k, hk, rfl, HR⟩ := hrel
    by_cases hlt : k < 256
    ·have ck := HR.out.2.1 k hlt
     obtain ⟨q, HQ⟩ : ∃ q, Hid (q = SB k) := ⟨_, rfl⟩
     rw [← HQ.out] at ck
     have hq : q < 256 := by rw [HQ.out]; exact SB_lt k
     have hqi : ((q : Nat) : Int) < 256 := by omega
     have hki : ((k : Nat) : Int) < 256 := by omega
     obtain ⟨c1, hc1⟩ := there_cell HR.out.1.t q hq
     have hf1 := there_froz HR.out.1.t q hq
     have hm : ((k : Nat) : Int) % 256 = ((k : Nat) : Int) := by omega
     go_wp2
     refine ⟨⟨k + 1, by omega, rfl, HR.out.1.set _ _ _ (by have := HBB.out; omega), fun j hj => ?_, fun j hj => ?_⟩, ?_⟩
     ·rw [World.cell?_setCell_far _ _ _ _ (by have := HBB.out; show b3 ≠ b2; omega)]
      exact HR.out.2.1 j hj
     ·by_cases hjk : j = k
      ·subst hjk; rw [HQ.out] at hq ⊢; exact set_same _ HR.out.1.t hq
      ·rw [cell_other _ _ _ _ _ (fun h => hjk (SB_inj (by omega) hlt (h.symm.trans HQ.out)))]
       exact HR.out.2.2 j (by omega)
     ·simp only [intOf]; omega
    ·obtain rfl : k = 256 := by omega
     have RS : Hid (wr.rangeAt b2 0 sbL) := sbL_range (fun j hj => by rw [Nat.zero_add]; exact HR.out.2.1 j hj)
     have RU : Hid (wr.rangeAt b3 0 ubL) := ubL_range (fun j hj => by
      rw [Nat.zero_add]
      have := HR.out.2.2 (UB j) (UB_lt j)
      rw [(UB_SB ⟨j, hj⟩).2] at this
      exact this)
     clear hlt hk H2
     go_wp2
     obtain ⟨SL, HSL⟩ : ∃ L, Hid (L = sbL) := ⟨_, rfl⟩
     obtain ⟨UL, HUL⟩ : ∃ L, Hid (L = ubL) := ⟨_, rfl⟩
     rw [← HSL.out] at RS
     rw [← HUL.out] at RU
     have HSl : Hid (SL.toArray.size = 256) := by show _ = _; rw [HSL.out]; exact sbL_len
     have HUl : Hid (UL.toArray.size = 256) := by show _ = _; rw [HUL.out]; exact ubL_len
     have HSo : Hid (SL.toArray.all (·.oneCell') = true) := by show _ = _; rw [HSL.out]; exact sbL_one
     have HUo : Hid (UL.toArray.all (·.oneCell') = true) := by show _ = _; rw [HUL.out]; exact ubL_one
     have hS0 : ∀ p : Addr, b2 ≤ p.block → wr.drew.cell? p = wr.cell? p := fun p _ => rfl
     have G2 : Hid (∀ u : World, (∀ p : Addr, b2 ≤ p.block → u.cell? p = wr.cell? p) → u.rangeAt b2 0 SL) := fun u hu j v hv => (hu _ (Nat.le_refl _)).trans (RS.out j v hv)
     have G3 : Hid (∀ u : World, (∀ p : Addr, b2 ≤ p.block → u.cell? p = wr.cell? p) → u.rangeAt b3 0 UL) := fun u hu j v hv => (hu _ (Nat.le_of_lt HBB.out.2.2)).trans (RU.out j v hv)
     have HT0 : Hid (wr.drew.there w.heap.size 0 SL.toArray.size) := by show World.there _ _ _ _; rw [HSl.out]; exact (World.there_drew _ _ _ _).2 HR.out.1.r0
     have HT1 : Hid (wr.drew.there b1 0 UL.toArray.size) := by show World.there _ _ _ _; rw [HUl.out]; exact (World.there_drew _ _ _ _).2 HR.out.1.r1
     have s65a : Hid ((Tryz.prog.info? 143).map (·.size) = some SL.toArray.size) := by show _ = _; rw [HSl.out]; exact size65
     have s65b : Hid ((Tryz.prog.info? 143).map (·.size) = some UL.toArray.size) := by show _ = _; rw [HUl.out]; exact size65
     refine wp_region_noPanic ?_
     refine wp_region_held_drew (S := fun u => ∀ p : Addr, b2 ≤ p.block → u.cell? p = wr.cell? p) (by kernel_rfl) (hS0) (fun _ => ?_)
     refine tH 0 33 (.agg SL.toArray) rfl rfl (by kernel_rfl) (hS0) (yieldsIf_load_mid (by kernel_rfl) 143 (.tmp 2) rfl b2 0 rfl SL _ (fun u hu => G2.out u hu) Tryz.underlying143 rfl s65a.out) ?_
     simp only [pU]
     refine tH 1 34 (.agg UL.toArray) rfl rfl (by kernel_rfl) (hS0) (yieldsIf_load_mid (by kernel_rfl) 143 (.tmp 3) rfl b3 0 rfl UL _ (fun u hu => G3.out u hu) Tryz.underlying143 rfl s65b.out) ?_
     simp only [pU]
     refine wpAnyH_ready (rs := [2]) (by kernel_rfl) (by simp) ?_
     refine AllReadyH.cons rfl (fun Kx hK => ?_) AllReadyH.nil
     rw [if_pos (by kernel_rfl)]
     refine wp_store_mid 143 (.tmp 0) (.tmp 33) rfl w.heap.size 0 SL.toArray rfl rfl HT0.out s65a.out HSo.out ?_
     have hS1 : ∀ p : Addr, b2 ≤ p.block → (wr.drew.setCells w.heap.size 0 SL).cell? p = wr.cell? p := fun p hp => (World.cell?_setCells_out _ _ _ _ _ (fun e => by have := HBB.out; omega)).trans (hS0 p hp)
     refine hK.out _ _ hS1 (fun _ => ?_)
     clear hK Kx
     try simp only [Act.put]
     refine wpAnyH_ready (rs := [3]) (by kernel_rfl) (by simp) ?_
     refine AllReadyH.cons rfl (fun Kx hK => ?_) AllReadyH.nil
     rw [if_pos (by kernel_rfl)]
     refine wp_store_mid 143 (.tmp 1) (.tmp 34) rfl b1 0 UL.toArray rfl rfl (World.there_setCells HT1.out _ _ _) s65b.out HUo.out ?_
     have hS2 : ∀ p : Addr, b2 ≤ p.block → ((wr.drew.setCells w.heap.size 0 SL).setCells b1 0 UL).cell? p = wr.cell? p := fun p hp => (World.cell?_setCells_out _ _ _ _ _ (fun e => by have := HBB.out; omega)).trans (hS1 p hp)
     refine hK.out _ _ hS2 (fun _ => ?_)
     clear hK Kx
     refine wpAnyH_done (by kernel_rfl) ?_ _
     refine NoPanic.normal ?_
     have hlast : Hid (((wr.drew.setCells w.heap.size 0 SL).setCells b1 0 UL).rangeAt w.heap.size 0 SL) := fun j v hv => (World.cell?_setCells_out b1 _ _ _ _ (fun e => by have h1 := HBB.out.1; have h2 : w.heap.size = b1 := e; omega)).trans (World.rangeAt_setCells_same _ _ _ _ HT0.out j v hv)
     have hlast2 : Hid (((wr.drew.setCells w.heap.size 0 SL).setCells b1 0 UL).rangeAt b1 0 UL) := World.rangeAt_setCells_same _ _ _ _ (World.there_setCells HT1.out _ _ _)
     have hbel : Hid (Below w.heap.size w ((wr.drew.setCells w.heap.size 0 SL).setCells b1 0 UL)) := belowB_setCells _ (by have := HBB.out; omega) _ _ _ (belowB_setCells _ (Nat.le_refl _) _ _ _ HR.out.1.old.drew)
     go_wp2
     refine ret_cells2 SL UL Tryz.results102 rfl rfl hlast.out hlast2.out Tryz.underlying143 rfl s65a.out s65b.out ⟨by rw [HSL.out, HUL.out], hbel.out⟩
end Go.Proofs.YtcnikfikpnnblaaGreatDoor
