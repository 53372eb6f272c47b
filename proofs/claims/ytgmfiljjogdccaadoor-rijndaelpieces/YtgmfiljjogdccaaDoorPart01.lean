import Derived.Test.YtgmfiljjogdccaaDoorPart00
import Derived.Deep.Draws
import Derived.Deep.Upon
import Derived.Deep.CutRange
import Derived.Test.YtgmfiljjogdccaaDoorProg
import Derived.Conc.RwLib
import Derived.KernelRfl
import Derived.Conc.RwLone
import Derived.Defers
namespace Go.Proofs.YtgmfiljjogdccaaDoor
open Go.RowKit

/-- A world that differs in what it drew alone. -/
structure Sm (w w' : World) : Prop where
  os : w'.os = w.os
  tape : w'.tape = w.tape
  output : w'.output = w.output
  heap : w'.heap = w.heap
theorem Sm.refl (w : World) : Sm w w := ⟨rfl, rfl, rfl, rfl⟩
theorem Sm.drewN {w v : World} (h : Sm w v) (m : Nat) : Sm w (v.drewN m) := ⟨h.os, h.tape, h.output, h.heap⟩
theorem Sm.trans {a b c : World} (h : Sm a b) (k : Sm b c) : Sm a c := ⟨k.os.trans h.os, k.tape.trans h.tape, k.output.trans h.output, k.heap.trans h.heap⟩
theorem Sm.cell {w v : World} (h : Sm w v) (p : Addr) : v.cell? p = w.cell? p := World.cell?_of_block (by rw [h.heap])
theorem Sm.frozen {w v : World} (h : Sm w v) (p : Addr) : v.frozen? p = w.frozen? p := World.frozen?_of_block (by rw [h.heap])

theorem setCells_os (b : Nat) : ∀ (vs : List Value) (o : Nat) (w : World), (w.setCells b o vs).os = w.os
  | [], _, _ => rfl
  | v :: r, o, w => by rw [World.setCells, setCells_os b r (o + 1)]; rfl
theorem setCells_tape (b : Nat) : ∀ (vs : List Value) (o : Nat) (w : World), (w.setCells b o vs).tape = w.tape
  | [], _, _ => rfl
  | v :: r, o, w => by rw [World.setCells, setCells_tape b r (o + 1)]; rfl
theorem setCells_output (b : Nat) : ∀ (vs : List Value) (o : Nat) (w : World), (w.setCells b o vs).output = w.output
  | [], _, _ => rfl
  | v :: r, o, w => by rw [World.setCells, setCells_output b r (o + 1)]; rfl

/-- From w to w' nothing of what was there is changed but n cells of block g from o on; what could be written there can be still. -/
structure Touch (w w' : World) (g o n : Nat) : Prop where
  os : w'.os = w.os
  tape : w'.tape = w.tape
  output : w'.output = w.output
  size : w.heap.size ≤ w'.heap.size
  block : ∀ k, k < w.heap.size → k ≠ g → w'.heap[k]? = w.heap[k]?
  cell : ∀ j, (j < o ∨ o + n ≤ j) → w'.cell? ⟨g, j, none⟩ = w.cell? ⟨g, j, none⟩
  there : ∀ o' n', w.there g o' n' → w'.there g o' n'

theorem Sm.touch {w v : World} (h : Sm w v) (g o n : Nat) : Touch w v g o n :=
  ⟨h.os, h.tape, h.output, by rw [h.heap]; exact Nat.le_refl _, fun k _ _ => by rw [h.heap], fun j _ => h.cell _, fun o' n' ht j hj => by rw [h.cell, h.frozen]; exact ht j hj⟩
theorem Touch.refl (w : World) (g o n : Nat) : Touch w w g o n := (Sm.refl w).touch g o n
theorem Touch.trans {a b c : World} {g o n : Nat} (h : Touch a b g o n) (k : Touch b c g o n) : Touch a c g o n :=
  ⟨k.os.trans h.os, k.tape.trans h.tape, k.output.trans h.output, Nat.le_trans h.size k.size, fun i hi hne => (k.block i (Nat.lt_of_lt_of_le hi h.size) hne).trans (h.block i hi hne), fun j hj => (k.cell j hj).trans (h.cell j hj), fun o' n' ht => k.there o' n' (h.there o' n' ht)⟩
theorem Touch.mono {a b : World} {g o n : Nat} (h : Touch a b g o n) (o' n' : Nat) (h1 : o' ≤ o) (h2 : o + n ≤ o' + n') : Touch a b g o' n' :=
  ⟨h.os, h.tape, h.output, h.size, h.block, fun j hj => h.cell j (by omega), h.there⟩
theorem Touch.setCells {a b : World} {g o n : Nat} (h : Touch a b g o n) (o' : Nat) (vs : List Value) (h1 : o ≤ o') (h2 : o' + vs.length ≤ o + n) : Touch a (b.setCells g o' vs) g o n := by
  refine h.trans ⟨?_, ?_, ?_, ?_, ?_, ?_, ?_⟩
  · exact setCells_os g vs o' b
  · exact setCells_tape g vs o' b
  · exact setCells_output g vs o' b
  · rw [sizeB_setCells]; exact Nat.le_refl _
  · intro k hk hne
    exact World.heap_setCells_other b g o' vs hk hne
  · intro j hj
    exact World.cell?_setCells_out g vs o' b ⟨g, j, none⟩ (fun _ _ => by rcases hj with h | h; exact .inl (by show j < o'; omega); exact .inr (by show o' + vs.length ≤ j; omega))
  · intro o2 n2 ht
    exact World.there_setCells ht g o' vs
theorem Touch.setCell {a b : World} {g o n : Nat} (h : Touch a b g o n) (j : Nat) (u : Value) (h1 : o ≤ j) (h2 : j < o + n) : Touch a (b.setCell ⟨g, j, none⟩ u) g o n :=
  h.setCells j [u] h1 (by simp; omega)
theorem Touch.alloc {a b : World} {g o n : Nat} (h : Touch a b g o n) (ob : Obj) (hg : g < a.heap.size) : Touch a (b.alloc ob) g o n := by
  have hs := h.size
  refine h.trans ⟨rfl, rfl, rfl, by simp, ?_, ?_, ?_⟩
  · intro k hk _
    exact Below.heap_alloc b ob k hk
  · intro j _
    exact World.cell?_alloc_past ob g j (by omega)
  · intro o' n' ht
    exact World.there_alloc ht ob
theorem Touch.drew {a b : World} {g o n : Nat} (h : Touch a b g o n) : Touch a b.drew g o n := ⟨h.os, h.tape, h.output, h.size, h.block, h.cell, h.there⟩
theorem Touch.drewN {a b : World} {g o n : Nat} (h : Touch a b g o n) (m : Nat) : Touch a (b.drewN m) g o n := ⟨h.os, h.tape, h.output, h.size, h.block, h.cell, h.there⟩
/-- What only makes new blocks touches nothing. -/
theorem Touch.below {a b c : World} {g o n : Nat} (h : Touch a b g o n) (k : Below b.heap.size b c) (hg : g < a.heap.size) : Touch a c g o n := by
  have hs := h.size
  refine h.trans ⟨k.os, k.tape, k.output, k.size, fun i hi _ => k.block i hi, fun j _ => k.cell (p := ⟨g, j, none⟩) (show g < _ by omega), ?_⟩
  intro o' n' ht j hj
  rw [k.cell (p := ⟨g, o' + j, none⟩) (show g < _ by omega), k.frozen (p := ⟨g, o' + j, none⟩) (show g < _ by omega)]
  exact ht j hj
theorem Touch.toBelow {a b : World} {g o n B : Nat} (h : Touch a b g o n) (hg : B ≤ g) (hB : B ≤ a.heap.size) : Below B a b :=
  ⟨h.os, h.tape, h.output, h.size, fun k hk => h.block k (by omega) (by omega)⟩
theorem Touch.far {a b : World} {g o n : Nat} (h : Touch a b g o n) {p : Addr} (hp : p.block < a.heap.size) (hne : p.block ≠ g) : b.cell? p = a.cell? p := World.cell?_of_block (h.block p.block hp hne)
theorem Touch.farFrozen {a b : World} {g o n : Nat} (h : Touch a b g o n) {p : Addr} (hp : p.block < a.heap.size) (hne : p.block ≠ g) : b.frozen? p = a.frozen? p := World.frozen?_of_block (h.block p.block hp hne)
end Go.Proofs.YtgmfiljjogdccaaDoor
namespace Go.Proofs.YtgmfiljjogdccaaDoor
open Go.RowKit
set_option linter.unusedVariables false
/-- The powers of 3, those of its inverse, the logarithm: out of one number each. -/
def pwT (j : Nat) : Nat := Nat.mod (Nat.shiftRight 247704880781559356684414323119999879637317647180040216102211349143305888774923398537951341803642731683984666991564019150676315804531779449815159115664189418245566988781254625896260912026622159780553349108386186142268315007856282091988200171439146255715840100601167723801170608095743514940052926055042184507632911811387723359914440662207451538163404716729158929845121383729837235901114109841630616474463024741216292666125260571984924724184385554713500007113061044175325657975136216706165622836048350080632971744177780693200859426168487707538171671676645432511882666690861394815764438377708986394032816479809277592321 (Nat.mul 8 j)) 256
def ivT (j : Nat) : Nat := Nat.mod (Nat.shiftRight 127727404692115426734198332805968219844573505114629208686901216293690186132462130931675081705992402874744649337146722143913163583643487276303943818893807190013751092806990287370556889600057311714676499800760749547103353651662433367294783190206880884813569237221343399581497263169989195187996008530110587099785212876728548450345268301970899227233349908984604527389233338265073456776979288885037749793268642272576260293033947624555608176220260351415492203342228236466557716880135026471476615524857486394512952861707819425159769229481997196826278555408639803976402068508913166242851432043694978610662015700264484533761 (Nat.mul 8 j)) 256
def lgT (b : Nat) : Nat := Nat.mod (Nat.shiftRight 939374623831894136699086600277250597547650664638770418422125146541797353646788332867483593573384618611044815625336497665827114626705134492515730415652478061620339993830966980270842846318821775850471098591710629241171812800746666233448222972174585295916389942636813666312872914849454985560152530477328703759683306625234997237483834721220409437442253146756845415190424543171129629468776480674528486868811725071010351012234056630775688111116293610821126543142160426617079940511630006820862697466582575257349116925728488930366609138264019883664906661504235885380294353134295748489096855100647154935187045898006656778240 (Nat.mul 8 b)) 256
theorem pwT_lt (j : Nat) : pwT j < 256 := Nat.mod_lt _ (by decide)
theorem ivT_lt (j : Nat) : ivT j < 256 := Nat.mod_lt _ (by decide)
theorem pw_step : ∀ j : Fin 255, tmsN 8 0 (pwT j.1) 3 = pwT (j.1 + 1) ∧ tmsN 8 0 (ivT j.1) 246 = ivT (j.1 + 1) ∧ sprN (ivT j.1) = SB (pwT j.1) := by decide +kernel
theorem lg_all : ∀ b : Fin 256, b.1 = 0 ∨ (lgT b.1 < 255 ∧ pwT (lgT b.1) = b.1) := by decide +kernel
theorem SB_inj {b c : Nat} (hb : b < 256) (hc : c < 256) (h : SB b = SB c) : b = c := by
  have h1 := (UB_SB ⟨b, hb⟩).1
  have h2 := (UB_SB ⟨c, hc⟩).1
  simp only at h1 h2
  rw [← h1, ← h2, h]
/-- The row of a byte stands. -/
structure RowOk (w : World) (g o b : Nat) : Prop where
  s : w.cell? ⟨g, o + 61 + b, none⟩ = some (.int .u8 (SB b : Nat))
  u : w.cell? ⟨g, o + 317 + SB b, none⟩ = some (.int .u8 (b : Nat))
  m : w.cell? ⟨g, o + 573 + b, none⟩ = some (.int .u32 (MX b : Nat))
  n : w.cell? ⟨g, o + 829 + b, none⟩ = some (.int .u32 (UX b : Nat))
theorem cell_other (w : World) (g i j : Nat) (v : Value) (h : i ≠ j) : (w.setCell ⟨g, i, none⟩ v).cell? ⟨g, j, none⟩ = w.cell? ⟨g, j, none⟩ :=
  World.cell?_setCell_other w ⟨g, i, none⟩ ⟨g, j, none⟩ v (fun e => h (by cases e; rfl))
theorem cell_same {w : World} {g o i n : Nat} (v : Value) (ht : w.there g o n) (hi : i < n) : (w.setCell ⟨g, o + i, none⟩ v).cell? ⟨g, o + i, none⟩ = some v :=
  World.cell?_setCell_same' _ _ _ (ht i hi).1
theorem rowSet_same {w : World} {g o b : Nat} (ht : w.there g o 1085) (hb : b < 256) : RowOk (rowSet w g o b (SB b)) g o b := by
  have hs := SB_lt b
  unfold rowSet
  refine ⟨?_, ?_, ?_, ?_⟩
  · rw [cell_other _ _ _ _ _ (by omega), cell_other _ _ _ _ _ (by omega), cell_other _ _ _ _ _ (by omega)]
    have := cell_same (i := 61 + b) (.int .u8 (SB b : Nat)) ht (by omega)
    rw [← Nat.add_assoc] at this
    exact this
  · rw [cell_other _ _ _ _ _ (by omega), cell_other _ _ _ _ _ (by omega)]
    have := cell_same (i := 317 + SB b) (.int .u8 (b : Nat)) (World.there_setCells ht g (o + 61 + b) [.int .u8 (SB b : Nat)]) (by omega)
    rw [← Nat.add_assoc] at this
    exact this
  · rw [cell_other _ _ _ _ _ (by omega)]
    have := cell_same (i := 573 + b) (.int .u32 (MX b : Nat)) (World.there_setCells (World.there_setCells ht g (o + 61 + b) [.int .u8 (SB b : Nat)]) g (o + 317 + SB b) [.int .u8 (b : Nat)]) (by omega)
    rw [← Nat.add_assoc] at this
    exact this
  · have := cell_same (i := 829 + b) (.int .u32 (UX b : Nat)) (World.there_setCells (World.there_setCells (World.there_setCells ht g (o + 61 + b) [.int .u8 (SB b : Nat)]) g (o + 317 + SB b) [.int .u8 (b : Nat)]) g (o + 573 + b) [.int .u32 (MX b : Nat)]) (by omega)
    rw [← Nat.add_assoc] at this
    exact this
theorem rowSet_other {w : World} {g o b c : Nat} (hb : b < 256) (hc : c < 256) (hne : b ≠ c) (h : RowOk w g o c) : RowOk (rowSet w g o b (SB b)) g o c := by
  have hs := SB_lt b
  have hs' := SB_lt c
  have hsn : SB b ≠ SB c := fun e => hne (SB_inj hb hc e)
  unfold rowSet
  refine ⟨?_, ?_, ?_, ?_⟩
  · rw [cell_other _ _ _ _ _ (by omega), cell_other _ _ _ _ _ (by omega), cell_other _ _ _ _ _ (by omega), cell_other _ _ _ _ _ (by omega)]; exact h.s
  · rw [cell_other _ _ _ _ _ (by omega), cell_other _ _ _ _ _ (by omega), cell_other _ _ _ _ _ (by omega), cell_other _ _ _ _ _ (by omega)]; exact h.u
  · rw [cell_other _ _ _ _ _ (by omega), cell_other _ _ _ _ _ (by omega), cell_other _ _ _ _ _ (by omega), cell_other _ _ _ _ _ (by omega)]; exact h.m
  · rw [cell_other _ _ _ _ _ (by omega), cell_other _ _ _ _ _ (by omega), cell_other _ _ _ _ _ (by omega), cell_other _ _ _ _ _ (by omega)]; exact h.n
theorem RowOk.drewN {w : World} {g o b : Nat} (h : RowOk w g o b) (m : Nat) : RowOk (w.drewN m) g o b := ⟨h.s, h.u, h.m, h.n⟩
theorem rowSet_touch {w v : World} {g o b : Nat} (hb : b < 256) (h : Touch w v g (o + 61) 1024) (m : Nat) : Touch w ((rowSet v g o b (SB b)).drewN m) g (o + 61) 1024 := by
  have hs := SB_lt b
  unfold rowSet
  exact ((((h.setCell _ _ (by omega) (by omega)).setCell _ _ (by omega) (by omega)).setCell _ _ (by omega) (by omega)).setCell _ _ (by omega) (by omega)).drewN m
theorem rows_tab {w : World} {g o : Nat} (h : ∀ b, b < 256 → RowOk w g o b) : Tab w g o :=
  ⟨fun b hb => (h b hb).s, fun c hc => by
    have h1 := (h (UB c) (UB_lt c)).u
    have h2 := (UB_SB ⟨c, hc⟩).2
    simp only at h2
    rw [h2] at h1
    exact h1, fun b hb => (h b hb).m, fun b hb => (h b hb).n⟩
set_option maxHeartbeats 3200000 in
set_option maxRecDepth 100000 in
theorem fillTables_ok (g o : Nat) (w : World) (ht : w.there g o 1085) :
    Calls Tryd.prog 52 #[.pointer (some ⟨g, o, none⟩)] w fun e w' => e = .returned (.tuple #[]) ∧ Touch w w' g (o + 61) 1024 ∧ Tab w' g o := by
  have HT : Hid (w.there g o 1085) := ht
  clear ht
  have hz : SB 0 = 99 := by decide +kernel
  have H0 : Hid (Calls Tryd.prog 75 #[.pointer (some ⟨g, o, none⟩), .int .u8 0, .int .u8 99] w fun e w' => e = .returned (.tuple #[]) ∧ ∃ m, w' = (rowSet w g o 0 99).drewN m) := fillRow_ok g o 0 99 w (by decide) (by decide) HT.out
  go_enter Tryd.func52, Tryd.ntmps52
  go_wp2_with (first | (go_at_call 75; (refine H0.out.mono ?_)))
  rintro e1 w1 ⟨rfl, m1, hw1⟩
  have HI : Hid (Touch w w1 g (o + 61) 1024 ∧ RowOk w1 g o 0) := by
    rw [hw1, ← hz]
    exact ⟨rowSet_touch (by decide) (Touch.refl _ _ _ _) m1, (rowSet_same HT.out (by decide)).drewN m1⟩
  clear hw1 H0
  go_wp2
  go_loopw [2, 3, 6] (fun vp vi i wr => ∃ k : Nat, k ≤ 255 ∧ i = .int .i64 k ∧ vp = .int .u8 (pwT k : Nat) ∧ vi = .int .u8 (ivT k : Nat) ∧ Hid (Touch w wr g (o + 61) 1024 ∧ RowOk wr g o 0 ∧ ∀ j, j < k → RowOk wr g o (pwT j))) (fun _ _ i _ => 255 - (intOf i).toNat)
  case atStart => exact ⟨0, by omega, rfl, rfl, rfl, HI.out.1, HI.out.2, fun j hj => by omega⟩
  case round =>
    obtain ⟨k, hk, rfl, rfl, rfl, HR⟩ := hrel
    by_cases hlt : k < 255
    · obtain ⟨e1, e2, e3⟩ := pw_step ⟨k, hlt⟩
      simp only at e1 e2 e3
      obtain ⟨p, HP⟩ : ∃ p, Hid (p = pwT k) := ⟨_, rfl⟩
      obtain ⟨v, HV⟩ : ∃ p, Hid (p = ivT k) := ⟨_, rfl⟩
      have hp : p < 256 := by rw [HP.out]; exact pwT_lt k
      have hv : v < 256 := by rw [HV.out]; exact ivT_lt k
      have K1 : Hid (∀ u, Calls Tryd.prog 76 #[.int .u8 (v : Nat)] u fun e u' => e = .returned (.int .u8 (SB p : Nat)) ∧ u' = u) := fun u => (spread_ok v hv u).mono fun e u' ⟨z, _, hz, h1, h2⟩ => ⟨by rw [h1, hz.out, HV.out, e3, HP.out], h2⟩
      have K2 : Hid (Calls Tryd.prog 75 #[.pointer (some ⟨g, o, none⟩), .int .u8 (p : Nat), .int .u8 (SB p : Nat)] wr fun e w' => e = .returned (.tuple #[]) ∧ ∃ m, w' = (rowSet wr g o p (SB p)).drewN m) := fillRow_ok g o p (SB p) wr hp (SB_lt p) (HR.out.1.there _ _ HT.out)
      have K3 : Hid (∀ u, Calls Tryd.prog 77 #[.int .u8 (p : Nat), .int .u8 3] u fun e u' => e = .returned (.int .u8 (pwT (k + 1) : Nat)) ∧ u' = u) := fun u => (times_ok p 3 hp (by decide) u).mono fun e u' ⟨h1, h2⟩ => ⟨by rw [h1, HP.out, e1], h2⟩
      have K4 : Hid (∀ u, Calls Tryd.prog 77 #[.int .u8 (v : Nat), .int .u8 246] u fun e u' => e = .returned (.int .u8 (ivT (k + 1) : Nat)) ∧ u' = u) := fun u => (times_ok v 246 hv (by decide) u).mono fun e u' ⟨h1, h2⟩ => ⟨by rw [h1, HV.out, e2], h2⟩
      clear e1 e2 e3
      obtain ⟨p', HP'⟩ : ∃ p, Hid (p = pwT (k + 1)) := ⟨_, rfl⟩
      obtain ⟨v', HV'⟩ : ∃ p, Hid (p = ivT (k + 1)) := ⟨_, rfl⟩
      rw [← HP'.out] at K3
      rw [← HV'.out] at K4
      rw [← HP.out, ← HV.out]
      go_wp2_with (first | (go_at_call 76; (refine (K1.out _).mono ?_); (rintro e2 w2 ⟨rfl, hw2⟩; obtain rfl := hw2.symm)) | (go_at_call 75; (refine K2.out.mono ?_)))
      rintro e3 w3 ⟨rfl, m3, hw3⟩
      have HR3 : Hid (Touch w w3 g (o + 61) 1024 ∧ RowOk w3 g o 0 ∧ ∀ j, j < k + 1 → RowOk w3 g o (pwT j)) := by
        obtain ⟨r1, r2, r3⟩ := HR.out
        rw [hw3]
        refine ⟨rowSet_touch hp r1 m3, ?_, fun j hj => ?_⟩
        · by_cases h0 : p = 0
          · subst h0; exact (rowSet_same (r1.there _ _ HT.out) hp).drewN m3
          · exact (rowSet_other hp (by decide) h0 r2).drewN m3
        · by_cases hjk : p = pwT j
          · rw [← hjk]; exact (rowSet_same (r1.there _ _ HT.out) hp).drewN m3
          · have hj' : j < k := by
              rcases Nat.lt_or_ge j k with h | h
              · exact h
              · exact absurd (show p = pwT j by rw [show j = k by omega]; exact HP.out) hjk
            exact (rowSet_other hp (pwT_lt j) hjk (r3 j hj')).drewN m3
      clear hw3 K1 K2
      go_wp2_with (first | (go_at_call 77; (refine (K3.out _).mono ?_)))
      rintro e4 w4 ⟨rfl, hw4⟩
      obtain rfl := hw4.symm
      go_wp2_with (first | (go_at_call 77; (refine (K4.out _).mono ?_)))
      rintro e5 w5 ⟨rfl, hw5⟩
      obtain rfl := hw5.symm
      go_wp2
      refine ⟨⟨k + 1, by omega, rfl, by rw [HP'.out], by rw [HV'.out], HR3.out⟩, ?_⟩
      simp only [intOf]; omega
    · obtain rfl : k = 255 := by omega
      go_wp2
      go_end0
      obtain ⟨r1, r2, r3⟩ := HR.out
      refine ⟨rfl, r1, rows_tab (fun b hb => ?_)⟩
      rcases lg_all ⟨b, hb⟩ with h | ⟨h1, h2⟩
      · simp only at h
        rw [h]
        exact r2
      · simp only at h1 h2
        have := r3 _ h1
        rw [h2] at this
        exact this
end Go.Proofs.YtgmfiljjogdccaaDoor
namespace Go.Proofs.YtgmfiljjogdccaaDoor
open Go.RowKit
set_option linter.unusedVariables false
/-- A cipher's cells, by place. -/
def cipC (nr : Nat) (K : Nat → Nat) (j : Nat) : Value :=
  if j = 0 then .int .i64 (nr : Nat) else if j < 61 then .int .u32 (K (j - 1) : Nat) else if j < 317 then .int .u8 (SB (j - 61) : Nat) else if j < 573 then .int .u8 (UB (j - 317) : Nat)
  else if j < 829 then .int .u32 (MX (j - 573) : Nat) else .int .u32 (UX (j - 829) : Nat)
def cipL (nr : Nat) (K : Nat → Nat) : List Value := (List.range 1085).map (cipC nr K)
theorem cipL_length (nr : Nat) (K : Nat → Nat) : (cipL nr K).length = 1085 := by simp [cipL]
theorem cipL_at (nr : Nat) (K : Nat → Nat) {j : Nat} (h : j < 1085) : (cipL nr K)[j]? = some (cipC nr K j) := by simp [cipL, h]
theorem cipC_one (nr : Nat) (K : Nat → Nat) (j : Nat) : (cipC nr K j).oneCell' = true := by
  unfold cipC
  repeat' split
  all_goals rfl
theorem cipL_one (nr : Nat) (K : Nat → Nat) : (cipL nr K).toArray.all (·.oneCell') = true := all_oneCell_toArray (fun v hv => by
  simp only [cipL, List.mem_map] at hv
  obtain ⟨j, _, rfl⟩ := hv
  exact cipC_one nr K j)
theorem cipL_range {w : World} {g o nr : Nat} {K : Nat → Nat} (h0 : w.cell? ⟨g, o, none⟩ = some (.int .i64 (nr : Nat))) (hw : ∀ i, i < 60 → w.cell? ⟨g, o + 1 + i, none⟩ = some (.int .u32 (K i : Nat))) (ht : Tab w g o) : w.rangeAt g o (cipL nr K) := fun j v hv => by
  have hj : j < 1085 := by
    have := (List.getElem?_eq_some_iff.1 hv).1
    rw [cipL_length] at this
    exact this
  rw [cipL_at nr K hj] at hv
  obtain rfl := Option.some.inj hv
  unfold cipC
  by_cases h1 : j = 0
  · rw [if_pos h1, h1]; exact h0
  rw [if_neg h1]
  by_cases h2 : j < 61
  · rw [if_pos h2]; have := hw (j - 1) (by omega); rw [show o + 1 + (j - 1) = o + j by omega] at this; exact this
  rw [if_neg h2]
  by_cases h3 : j < 317
  · rw [if_pos h3]; have := ht.s (j - 61) (by omega); rw [show o + 61 + (j - 61) = o + j by omega] at this; exact this
  rw [if_neg h3]
  by_cases h4 : j < 573
  · rw [if_pos h4]; have := ht.u (j - 317) (by omega); rw [show o + 317 + (j - 317) = o + j by omega] at this; exact this
  rw [if_neg h4]
  by_cases h5 : j < 829
  · rw [if_pos h5]; have := ht.m (j - 573) (by omega); rw [show o + 573 + (j - 573) = o + j by omega] at this; exact this
  rw [if_neg h5]
  have := ht.n (j - 829) (by omega)
  rw [show o + 829 + (j - 829) = o + j by omega] at this
  exact this
theorem ciph_of_range {w : World} {g o nr : Nat} {K : Nat → Nat} (h : w.rangeAt g o (cipL nr K)) (hg : g < w.heap.size) (h1 : 1 ≤ nr) (h14 : nr ≤ 14) (hK : ∀ i, K i < 4294967296) : Ciph w g o nr K := by
  have e : ∀ j, j < 1085 → w.cell? ⟨g, o + j, none⟩ = some (cipC nr K j) := fun j hj => h j _ (cipL_at nr K hj)
  refine ⟨?_, fun i hi => ?_, hK, ⟨fun b hb => ?_, fun b hb => ?_, fun b hb => ?_, fun b hb => ?_⟩, hg, h1, h14⟩
  · exact e 0 (by omega)
  · have := e (1 + i) (by omega)
    rw [← Nat.add_assoc] at this
    rw [this]
    unfold cipC
    rw [if_neg (by omega), if_pos (by omega), show 1 + i - 1 = i by omega]
  · have := e (61 + b) (by omega)
    rw [← Nat.add_assoc] at this
    rw [this]
    unfold cipC
    rw [if_neg (by omega), if_neg (by omega), if_pos (by omega), show 61 + b - 61 = b by omega]
  · have := e (317 + b) (by omega)
    rw [← Nat.add_assoc] at this
    rw [this]
    unfold cipC
    rw [if_neg (by omega), if_neg (by omega), if_neg (by omega), if_pos (by omega), show 317 + b - 317 = b by omega]
  · have := e (573 + b) (by omega)
    rw [← Nat.add_assoc] at this
    rw [this]
    unfold cipC
    rw [if_neg (by omega), if_neg (by omega), if_neg (by omega), if_neg (by omega), if_pos (by omega), show 573 + b - 573 = b by omega]
  · have := e (829 + b) (by omega)
    rw [← Nat.add_assoc] at this
    rw [this]
    unfold cipC
    rw [if_neg (by omega), if_neg (by omega), if_neg (by omega), if_neg (by omega), if_neg (by omega), show 829 + b - 829 = b by omega]
/-- The schedule. -/
def upd (f : Nat → Nat) (i v : Nat) : Nat → Nat := fun j => if j = i then v else f j
def subw (x : Nat) : Nat := lastw x x x x
def rotw (x : Nat) : Nat := wd (bt1 x) (bt2 x) (bt3 x) (bt0 x)
def rcT (i : Nat) : Nat := Nat.mod (Nat.shiftRight 255515093586639589736961 (Nat.mul 8 i)) 256
def nextW (nk i : Nat) (K : Nat → Nat) : Nat :=
  Nat.xor (K (i - nk)) (if i % nk = 0 then Nat.xor (subw (rotw (K (i - 1)))) (rcT (i / nk - 1) * 16777216) else if nk = 8 ∧ i % 8 = 4 then subw (K (i - 1)) else K (i - 1))
def keyW (key : Nat → Nat) : Nat → Nat → Nat
  | 0 => fun _ => 0
  | i + 1 => upd (keyW key i) (i / 4) (keyW key i (i / 4) * 256 % 4294967296 + key i)
def goW (nk : Nat) (K : Nat → Nat) : Nat → Nat → Nat
  | 0 => K
  | m + 1 => upd (goW nk K m) (nk + m) (nextW nk (nk + m) (goW nk K m))
/-- The words of a key of 4 nk bytes. -/
def schedK (nk : Nat) (key : Nat → Nat) : Nat → Nat := goW nk (keyW key (4 * nk)) (3 * nk + 28)
theorem keyW_lt {key : Nat → Nat} (hk : ∀ i, key i < 256) : ∀ i j, keyW key i j < 4294967296
  | 0, j => by show 0 < _; decide
  | i + 1, j => by
    unfold keyW upd
    have := hk i
    split
    · omega
    · exact keyW_lt hk i j
theorem rcT_lt (i : Nat) : rcT i < 256 := Nat.mod_lt _ (by decide)
theorem subw_lt (x : Nat) : subw x < 4294967296 := lastw_lt _ _ _ _
theorem nextW_lt {nk i : Nat} {K : Nat → Nat} (hK : ∀ j, K j < 4294967296) : nextW nk i K < 4294967296 := by
  unfold nextW
  refine xor_lt32 (hK _) ?_
  have := rcT_lt (i / nk - 1)
  split
  · exact xor_lt32 (subw_lt _) (by omega)
  · split
    · exact subw_lt _
    · exact hK _
theorem goW_lt {nk : Nat} {K : Nat → Nat} (hK : ∀ j, K j < 4294967296) : ∀ m j, goW nk K m j < 4294967296
  | 0, j => hK j
  | m + 1, j => by
    unfold goW upd
    split
    · exact nextW_lt (goW_lt hK m)
    · exact goW_lt hK m j
theorem schedK_lt {nk : Nat} {key : Nat → Nat} (hk : ∀ i, key i < 256) (j : Nat) : schedK nk key j < 4294967296 := goW_lt (keyW_lt hk _) _ j
/-- What stands while a key is scheduled in block B + 1. -/
structure SchAt (w : World) (nr : Nat) (K : Nat → Nat) (u : World) : Prop where
  old : Below w.heap.size w u
  size : w.heap.size + 2 ≤ u.heap.size
  res : u.there w.heap.size 0 1085
  room : u.there (w.heap.size + 1) 0 1085
  rounds : u.cell? ⟨w.heap.size + 1, 0, none⟩ = some (.int .i64 (nr : Nat))
  words : ∀ j, j < 60 → u.cell? ⟨w.heap.size + 1, 1 + j, none⟩ = some (.int .u32 (K j : Nat))
theorem SchAt.touch {w u u' : World} {nr : Nat} {K : Nat → Nat} (h : SchAt w nr K u) (ht : Touch u u' (w.heap.size + 1) 61 1024) : SchAt w nr K u' := by
  have hs := h.size
  refine ⟨h.old.trans (ht.toBelow (Nat.le_succ _) h.old.size), Nat.le_trans h.size ht.size, ?_, ht.there _ _ h.room, (ht.cell 0 (by omega)).trans h.rounds, fun j hj => (ht.cell (1 + j) (by omega)).trans (h.words j hj)⟩
  intro j hj
  have := h.res j hj
  rw [ht.far (p := ⟨w.heap.size, 0 + j, none⟩) (show w.heap.size < _ by omega) (show w.heap.size ≠ _ by omega), ht.farFrozen (p := ⟨w.heap.size, 0 + j, none⟩) (show w.heap.size < _ by omega) (show w.heap.size ≠ _ by omega)]
  exact this
theorem SchAt.set {w u : World} {nr : Nat} {K : Nat → Nat} (h : SchAt w nr K u) (i v : Nat) (hi : i < 60) : SchAt w nr (upd K i v) (u.setCell ⟨w.heap.size + 1, 1 + i, none⟩ (.int .u32 (v : Nat))) := by
  refine ⟨h.old.setCell (Nat.le_succ _) _, ?_, World.there_setCells h.res _ _ [_], World.there_setCells h.room _ _ [_], ?_, fun j hj => ?_⟩
  · have := h.size; simpa [World.setCell] using this
  · rw [cell_other _ _ _ _ _ (by omega)]; exact h.rounds
  · unfold upd
    by_cases hji : j = i
    · subst hji
      rw [if_pos rfl]
      have := h.room (1 + j) (by omega)
      simp only [Nat.zero_add] at this
      exact World.cell?_setCell_same' _ _ _ this.1
    · rw [if_neg hji, cell_other _ _ _ _ _ (by omega)]
      exact h.words j hj
theorem SchAt.drewN {w u : World} {nr : Nat} {K : Nat → Nat} (h : SchAt w nr K u) (m : Nat) : SchAt w nr K (u.drewN m) := ⟨Below.drewN h.old m, h.size, h.res, h.room, h.rounds, h.words⟩
theorem Tab.set {u : World} {g i : Nat} (h : Tab u g 0) (v : Value) (hi : i < 61) : Tab (u.setCell ⟨g, i, none⟩ v) g 0 :=
  ⟨fun b hb => by rw [cell_other _ _ _ _ _ (by omega)]; exact h.s b hb, fun b hb => by rw [cell_other _ _ _ _ _ (by omega)]; exact h.u b hb, fun b hb => by rw [cell_other _ _ _ _ _ (by omega)]; exact h.m b hb, fun b hb => by rw [cell_other _ _ _ _ _ (by omega)]; exact h.n b hb⟩
theorem Tab.drewN {u : World} {g o : Nat} (h : Tab u g o) (m : Nat) : Tab (u.drewN m) g o := ⟨h.s, h.u, h.m, h.n⟩
/-- replace: S of each byte of a word. -/
theorem replace_ok (g o x : Nat) (w : World) (hT : Tab w g o) : Calls Tryd.prog 53 #[.pointer (some ⟨g, o, none⟩), .int .u32 (x : Nat)] w fun e w' => e = .returned (.int .u32 (subw x : Nat)) ∧ ∃ m, w' = w.drewN m := by
  obtain ⟨y, HY⟩ : ∃ y, Hid (y = subw x) := ⟨_, rfl⟩
  have K1 : Hid (Calls Tryd.prog 67 #[.pointer (some ⟨g, o, none⟩), .int .u32 (x : Nat), .int .u32 (x : Nat), .int .u32 (x : Nat), .int .u32 (x : Nat)] w fun e w' => e = .returned (.int .u32 (y : Nat)) ∧ ∃ m, w' = w.drewN m) := by
    rw [HY.out]
    exact last_ok g o x x x x _ _ _ _ w (bt0_lt x) (bt1_lt x) (bt2_lt x) (bt3_lt x) (int_bt0 x) (int_bt1 x) (int_bt2 x) (int_bt3 x) hT
  rw [← HY.out]
  clear hT
  go_enter Tryd.func53, Tryd.ntmps53
  go_wp2_with (first | (go_at_call 67; refine K1.out.mono ?_))
  rintro e1 w1 ⟨rfl, m, hw⟩
  go_wp2
  go_ret
  exact ⟨rfl, m, rfl⟩
theorem wordCount_ok (g o nr : Nat) (w : World) (h : w.cell? ⟨g, o, none⟩ = some (.int .i64 (nr : Nat))) (hn : nr ≤ 14) : Calls Tryd.prog 42 #[.pointer (some ⟨g, o, none⟩)] w fun e w' => e = .returned (.int .i64 (4 * (nr + 1) : Nat)) ∧ w' = w := by
  go_enter Tryd.func42, Tryd.ntmps42
  go_wp2
  go_ret
  exact ⟨ret_int (by omega), rfl⟩
end Go.Proofs.YtgmfiljjogdccaaDoor
namespace Go.Proofs.YtgmfiljjogdccaaDoor
open Go.RowKit
set_option linter.unusedVariables false
/-- The table of the schedule, as it is laid. -/
def RC (w : World) : Prop := ∀ i, i < 10 → w.cell? ⟨0, i, none⟩ = some (.int .u8 (rcT i : Nat))
theorem size68 : (Tryd.prog.info? 68).map (·.size) = some 1085 := by kernel_rfl
theorem zero_size : Tryd.zeroCells68.size = 1085 := by kernel_rfl
theorem built_size (x : Int) : (Tryd.zeroCells68.setIfInBounds 0 (.int .i64 x)).size = 1085 := by rw [Array.size_setIfInBounds]; exact zero_size
theorem zero_one : Tryd.zeroCells68.toList.all (·.oneCell') = true := by kernel_rfl
theorem built_one (x : Int) : (Tryd.zeroCells68.setIfInBounds 0 (.int .i64 x)).all (·.oneCell') = true := by
  refine Array.all_eq_true_iff_forall_mem.2 (fun v hv => ?_)
  rcases Array.mem_or_eq_of_mem_setIfInBounds hv with h | h
  · exact List.all_eq_true.1 zero_one v (by simpa using h)
  · rw [h]; rfl
theorem built_words : Tryd.zeroCells68.toList.take 61 = .int .i64 0 :: List.replicate 60 (.int .u32 0) := by kernel_rfl
theorem built_at (x : Int) (j : Nat) (h : j < 60) : (Tryd.zeroCells68.setIfInBounds 0 (.int .i64 x))[1 + j]? = some (.int .u32 0) := by
  rw [Array.getElem?_setIfInBounds_ne (by omega), ← Array.getElem?_toList]
  have h1 := congrArg (fun l => l[j + 1]?) built_words
  simp only [List.getElem?_take_of_lt (show j + 1 < 61 by omega), List.getElem?_cons_succ, List.getElem?_replicate, if_pos h] at h1
  rw [Nat.add_comm 1 j]
  exact h1
theorem built_zero (x : Int) : (Tryd.zeroCells68.setIfInBounds 0 (.int .i64 x))[0]? = some (.int .i64 x) := by
  rw [Array.getElem?_setIfInBounds_self_of_lt (by rw [zero_size]; decide)]
theorem sch_start (w : World) (nr : Nat) : SchAt w nr (fun _ => 0) (((w.alloc (.cells Tryd.zeroCells68 68)).alloc (.cells Tryd.zeroCells68 68)).setCells (w.heap.size + 1) 0 (Tryd.zeroCells68.setIfInBounds 0 (.int .i64 (nr : Nat))).toList) := by
  have hb := (two_allocs w Tryd.zeroCells68 Tryd.zeroCells68 68 68)
  have h2 := there_new (w.alloc (.cells Tryd.zeroCells68 68)) Tryd.zeroCells68 68 1085 (by rw [zero_size]; exact Nat.le_refl _)
  have h2' : ((w.alloc (.cells Tryd.zeroCells68 68)).alloc (.cells Tryd.zeroCells68 68)).there (w.heap.size + 1) 0 1085 := by simpa using h2
  have h1 : ((w.alloc (.cells Tryd.zeroCells68 68)).alloc (.cells Tryd.zeroCells68 68)).there w.heap.size 0 1085 := World.there_alloc (there_new w Tryd.zeroCells68 68 1085 (by rw [zero_size]; exact Nat.le_refl _)) _
  have hl : (Tryd.zeroCells68.setIfInBounds 0 (.int .i64 (nr : Nat))).toList.length = 1085 := by rw [Array.length_toList]; exact built_size _
  have hr := World.rangeAt_setCells_same ((w.alloc (.cells Tryd.zeroCells68 68)).alloc (.cells Tryd.zeroCells68 68)) (w.heap.size + 1) 0 (Tryd.zeroCells68.setIfInBounds 0 (.int .i64 (nr : Nat))).toList (by rw [hl]; exact h2')
  refine ⟨belowB_setCells _ (Nat.le_succ _) _ _ _ hb.1, by rw [sizeB_setCells]; simp, World.there_setCells h1 _ _ _, World.there_setCells h2' _ _ _, ?_, fun j hj => ?_⟩
  · exact hr 0 _ (by rw [Array.getElem?_toList]; exact built_zero _)
  · have := hr (1 + j) _ (by rw [Array.getElem?_toList]; exact built_at _ j hj)
    rw [Nat.zero_add] at this
    exact this
theorem sch_next {w u : World} {nr nk m ii v : Nat} {K0 : Nat → Nat} (h : SchAt w nr (goW nk K0 m) u ∧ Tab u (w.heap.size + 1) 0) (hi : ii = nk + m) (h60 : ii < 60) (x : Int) (hx : x = (v : Nat)) (hv : v = nextW nk (nk + m) (goW nk K0 m)) :
    SchAt w nr (goW nk K0 (m + 1)) (u.setCell ⟨w.heap.size + 1, 1 + ii, none⟩ (.int .u32 x)) ∧ Tab (u.setCell ⟨w.heap.size + 1, 1 + ii, none⟩ (.int .u32 x)) (w.heap.size + 1) 0 := by
  subst hx hi
  refine ⟨?_, h.2.set _ (by omega)⟩
  have := h.1.set (nk + m) v h60
  rw [hv] at this ⊢
  exact this
set_option maxHeartbeats 6400000 in
set_option maxRecDepth 100000 in
theorem sched_ok (kb ko n cap nk : Nat) (key : Nat → Nat) (w : World) (hnk : nk = 4 ∨ nk = 6 ∨ nk = 8) (hn : n = 4 * nk) (hkb : kb < w.heap.size) (hcell : ∀ i, i < n → w.cell? ⟨kb, ko + i, none⟩ = some (.int .u8 (key i : Nat))) (hkey : ∀ i, key i < 256) (hrc : RC w) (hpos : 0 < w.heap.size) :
    Calls Tryd.prog 36 #[.slice (some ⟨kb, ko, none⟩) n cap] w fun e w' => e = .returned (.agg (cipL (nk + 6) (schedK nk key)).toArray) ∧ Below w.heap.size w w' := by
  have HK : Hid (nk = 4 ∨ nk = 6 ∨ nk = 8) := hnk
  have HN : Hid (n = 4 * nk) := hn
  have HCELL : Hid (∀ i, i < n → w.cell? ⟨kb, ko + i, none⟩ = some (.int .u8 (key i : Nat))) := hcell
  have HKEY : Hid (∀ i, key i < 256) := hkey
  have HRC : Hid (RC w) := hrc
  have HPOS : Hid (0 < w.heap.size) := hpos
  have HKB : Hid (kb < w.heap.size) := hkb
  have hq : ((n : Int)).tdiv 4 = (nk : Nat) := by rw [Int.tdiv_eq_ediv_of_nonneg (by omega)]; omega
  have hnk8 : (nk : Int) ≤ 8 := by omega
  have HST := sch_start w (nk + 6)
  have HSt : Hid (SchAt w (nk + 6) (fun _ => 0) (((w.alloc (.cells Tryd.zeroCells68 68)).alloc (.cells Tryd.zeroCells68 68)).setCells (w.heap.size + 1) 0 (Tryd.zeroCells68.setIfInBounds 0 (.int .i64 ((nk : Int) + 6))).toList)) := by
    have := HST
    rw [show (((nk + 6 : Nat)) : Int) = (nk : Int) + 6 by omega] at this
    exact this
  have HT1 : Hid (((w.alloc (.cells Tryd.zeroCells68 68)).alloc (.cells Tryd.zeroCells68 68)).there (w.heap.size + 1) 0 1085) := by
    have h2 := there_new (w.alloc (.cells Tryd.zeroCells68 68)) Tryd.zeroCells68 68 1085 (by rw [zero_size]; exact Nat.le_refl _)
    show World.there _ _ _ _
    simpa using h2
  clear HST hnk hn hcell hkey hrc hpos hkb
  go_enter Tryd.func36, Tryd.ntmps36
  go_upto_region 3 with (first
    | (refine wpList_store_mid (by rfl) 68 (.tmp 4) (.tmp 14) (by rfl) (w.heap.size + 1) 0 (Tryd.zeroCells68.setIfInBounds 0 (.int .i64 ((nk : Int) + 6))) (by rfl) (by rfl) (by rw [built_size]; exact HT1.out) (by rw [built_size]; exact size68) (built_one _) ?_)
    | fail)
  obtain ⟨w2, HW2⟩ : ∃ w2, Hid (w2 = ((w.alloc (.cells Tryd.zeroCells68 68)).alloc (.cells Tryd.zeroCells68 68)).setCells (w.heap.size + 1) 0 (Tryd.zeroCells68.setIfInBounds 0 (.int .i64 ((nk : Int) + 6))).toList) := ⟨_, rfl⟩
  rw [← HW2.out] at HSt ⊢
  clear HW2 HT1
  generalize Value.agg (Tryd.zeroCells68.setIfInBounds 0 (.int .i64 ((nk : Int) + 6))) = zz
  have KF : Hid (Calls Tryd.prog 52 #[.pointer (some ⟨w.heap.size + 1, 0, none⟩)] w2 fun e w' => e = .returned (.tuple #[]) ∧ Touch w2 w' (w.heap.size + 1) 61 1024 ∧ Tab w' (w.heap.size + 1) 0) := by
    have := fillTables_ok (w.heap.size + 1) 0 w2 HSt.out.room
    show Calls _ _ _ _ _
    simpa using this
  go_wp2_with (first | (go_at_call 52; refine KF.out.mono ?_))
  rintro e3 w3 ⟨rfl, ht3, htab3⟩
  have H3 : Hid (SchAt w (nk + 6) (fun _ => 0) w3 ∧ Tab w3 (w.heap.size + 1) 0) := ⟨HSt.out.touch ht3, htab3⟩
  clear ht3 htab3 KF HSt
  go_wp2
  go_loopw [18] (fun i wr => ∃ k : Nat, k ≤ n ∧ i = .int .i64 k ∧ Hid (SchAt w (nk + 6) (keyW key k) wr ∧ Tab wr (w.heap.size + 1) 0)) (fun i _ => n - (intOf i).toNat)
  case atStart => exact ⟨0, Nat.zero_le _, rfl, H3.out⟩
  case round =>
    obtain ⟨k, hk, rfl, HR⟩ := hrel
    by_cases hlt : k < n
    · have hn32 : n ≤ 32 := by have h1 := HN.out; have h2 := HK.out; omega
      have ck : wr.cell? ⟨kb, ko + k, none⟩ = some (.int .u8 (key k : Nat)) := (HR.out.1.old.cell HKB.out).trans (HCELL.out k hlt)
      have hd4 : ((k : Nat) : Int).tdiv 4 = ((k / 4 : Nat) : Int) := by rw [Int.tdiv_eq_ediv_of_nonneg (by omega)]; omega
      obtain ⟨q, HQ⟩ : ∃ q, Hid (q = k / 4) := ⟨_, rfl⟩
      rw [← HQ.out] at hd4
      have hq60 : ((q : Nat) : Int) < 60 := by rw [HQ.out]; omega
      have hq60' : q < 60 := by omega
      have cw : wr.cell? ⟨w.heap.size + 1, 1 + q, none⟩ = some (.int .u32 (keyW key k q : Nat)) := HR.out.1.words q hq60'
      have cf : wr.frozen? ⟨w.heap.size + 1, 1 + q, none⟩ = false := by
        have := (HR.out.1.room (1 + q) (by omega)).2
        simpa using this
      obtain ⟨x, HX⟩ : ∃ x, Hid (x = keyW key k q) := ⟨_, rfl⟩
      rw [← HX.out] at cw
      go_wp2
      have hxl : x < 4294967296 := by rw [HX.out]; exact keyW_lt HKEY.out _ _
      have hkl := HKEY.out k
      have hv : bits .or .u32 ((x : Int) * 256 % 4294967296) ((key k : Nat) % 4294967296) = ((x * 256 % 4294967296 + key k : Nat) : Int) := by
        have := joins 8 (x * 256 % 4294967296) (key k) (by omega) (by omega) (by omega) (by omega) (by omega)
        rw [show ((x : Int) * 256 % 4294967296) = ((x * 256 % 4294967296 : Nat) : Int) by omega, show (((key k : Nat) : Int) % 4294967296) = ((key k : Nat) : Int) by omega]
        exact this
      refine ⟨⟨k + 1, by omega, rfl, ?_⟩, ?_⟩
      · rw [hv]
        refine ⟨?_, HR.out.2.set _ (by omega)⟩
        have h := HR.out.1.set q (x * 256 % 4294967296 + key k) hq60'
        have e : keyW key (k + 1) = upd (keyW key k) q (x * 256 % 4294967296 + key k) := by
          rw [HX.out, HQ.out]
          exact rfl
        rw [e]
        exact h
      · simp only [intOf]; omega
    · obtain rfl : k = n := by omega
      obtain ⟨K0, HK0⟩ : ∃ K0, Hid (K0 = keyW key k) := ⟨_, rfl⟩
      have HK0l : Hid (∀ j, K0 j < 4294967296) := by show ∀ j, _; rw [HK0.out]; exact keyW_lt HKEY.out _
      rw [← HK0.out] at HR
      clear hlt hk
      go_wp2
      go_loopw [7] (fun i wr => ∃ m : Nat, m ≤ 3 * nk + 28 ∧ i = .int .i64 ((nk + m : Nat) : Int) ∧ Hid (SchAt w (nk + 6) (goW nk K0 m) wr ∧ Tab wr (w.heap.size + 1) 0)) (fun i _ => 4 * nk + 28 - (intOf i).toNat)
      case atStart => exact ⟨0, Nat.zero_le _, rfl, HR.out⟩
      case round =>
        clear HR
        obtain ⟨m, hm, rfl, HR⟩ := hrel
        obtain ⟨ii, HI⟩ : ∃ ii, Hid (ii = nk + m) := ⟨_, rfl⟩
        rw [← HI.out]
        have KW : Hid (Calls Tryd.prog 42 #[.pointer (some ⟨w.heap.size + 1, 0, none⟩)] wr fun e w' => e = .returned (.int .i64 (4 * (nk + 6 + 1) : Nat)) ∧ w' = wr) := wordCount_ok (w.heap.size + 1) 0 (nk + 6) wr HR.out.1.rounds (by have := HK.out; omega)
        obtain ⟨tot, HTOT⟩ : ∃ t, Hid (t = 4 * (nk + 6 + 1)) := ⟨_, rfl⟩
        rw [← HTOT.out] at KW
        by_cases hlt : m < 3 * nk + 28
        · have hit : ((ii : Nat) : Int) < (tot : Nat) := by have h1 := HI.out; have h2 := HTOT.out; omega
          have hnz : 1 ≤ nk := by have := HK.out; omega
          have hi1 : 1 ≤ ii := by have h1 := HI.out; omega
          have hi60 : ii < 60 := by have h1 := HI.out; have := HK.out; omega
          obtain ⟨p, HP⟩ : ∃ p, Hid (p = ii - 1) := ⟨_, rfl⟩
          have hp : ((ii : Nat) : Int) - 1 = (p : Nat) := by have := HP.out; omega
          have hmn : ((ii : Nat) : Int) - (nk : Nat) = (m : Nat) := by have := HI.out; omega
          have hmod : ((ii : Nat) : Int).tmod (nk : Nat) = ((ii % nk : Nat) : Int) := Int.ofNat_tmod ii nk |>.symm
          have hp60 : ((p : Nat) : Int) < 60 := by have := HP.out; omega
          have hm60 : ((m : Nat) : Int) < 60 := by have := HI.out; omega
          have hii60 : ((ii : Nat) : Int) < 60 := by omega
          have cp : wr.cell? ⟨w.heap.size + 1, 1 + p, none⟩ = some (.int .u32 (goW nk K0 m p : Nat)) := HR.out.1.words p (by omega)
          have cm : wr.cell? ⟨w.heap.size + 1, 1 + m, none⟩ = some (.int .u32 (goW nk K0 m m : Nat)) := HR.out.1.words m (by omega)
          have ci : wr.cell? ⟨w.heap.size + 1, 1 + ii, none⟩ = some (.int .u32 (goW nk K0 m ii : Nat)) := HR.out.1.words ii (by omega)
          have cf : wr.frozen? ⟨w.heap.size + 1, 1 + ii, none⟩ = false := by
            have := (HR.out.1.room (1 + ii) (by omega)).2
            simpa using this
          obtain ⟨xp, HXP⟩ : ∃ x, Hid (x = goW nk K0 m p) := ⟨_, rfl⟩
          obtain ⟨xm, HXM⟩ : ∃ x, Hid (x = goW nk K0 m m) := ⟨_, rfl⟩
          obtain ⟨xi, HXI⟩ : ∃ x, Hid (x = goW nk K0 m ii) := ⟨_, rfl⟩
          rw [← HXP.out] at cp
          rw [← HXM.out] at cm
          rw [← HXI.out] at ci
          have HLp : Hid (xp < 4294967296) := by show _ < _; rw [HXP.out]; exact goW_lt HK0l.out _ _
          have HLm : Hid (xm < 4294967296) := by show _ < _; rw [HXM.out]; exact goW_lt HK0l.out _ _
          by_cases hz : ii % nk = 0
          · have hz' : ((ii % nk : Nat) : Int) = 0 := by omega
            rw [hz'] at hmod
            go_wp2_with (first | (go_at_call 42; refine KW.out.mono ?_; rintro e4 w4 ⟨rfl, hw4⟩; obtain rfl := hw4.symm))
            obtain ⟨d, HD⟩ : ∃ d, Hid (d = ii / nk) := ⟨_, rfl⟩
            obtain ⟨e, HE⟩ : ∃ e, Hid (e = d - 1) := ⟨_, rfl⟩
            have hbnd : 1 ≤ d ∧ e < 10 := by
              have h1 := HD.out; have h2 := HE.out; have h3 := HI.out; have h4 := HTOT.out
              rcases HK.out with h | h | h <;> subst h <;> omega
            obtain ⟨hd1, he10⟩ := hbnd
            have hdiv : ((ii : Nat) : Int).tdiv (nk : Nat) = ((d : Nat) : Int) := by rw [HD.out]; exact (Int.ofNat_tdiv ii nk).symm
            have hde : ((d : Nat) : Int) - 1 = ((e : Nat) : Int) := by have := HE.out; omega
            have he10' : ((e : Nat) : Int) < 10 := by omega
            have hd60 : ((d : Nat) : Int) ≤ 60 := by have h1 := HD.out; have h2 : ii / nk ≤ ii := Nat.div_le_self _ _; omega
            have ce : wr.cell? ⟨0, e, none⟩ = some (.int .u8 (rcT e : Nat)) := (HR.out.1.old.cell HPOS.out).trans (HRC.out e he10)
            obtain ⟨rc, HRc⟩ : ∃ r, Hid (r = rcT e) := ⟨_, rfl⟩
            rw [← HRc.out] at ce
            have hrc : rc < 256 := by rw [HRc.out]; exact rcT_lt e
            obtain ⟨y, HY⟩ : ∃ y, Hid (y = rotw xp) := ⟨_, rfl⟩
            obtain ⟨z, HZ⟩ : ∃ z, Hid (z = subw y) := ⟨_, rfl⟩
            have K54 : Hid (∀ u, Calls Tryd.prog 54 #[.int .u32 (xp : Nat), .int .i64 8] u fun e u' => e = .returned (.int .u32 (y : Nat)) ∧ u' = u) := fun u => by
              have h := rotl8 (w := u) (bt0_lt xp) (bt1_lt xp) (bt2_lt xp) (bt3_lt xp)
              rw [wd_bt HLp.out] at h
              rw [HY.out]
              exact h
            have K53 : Hid (∀ u, Tab u (w.heap.size + 1) 0 → Calls Tryd.prog 53 #[.pointer (some ⟨w.heap.size + 1, 0, none⟩), .int .u32 (y : Nat)] u fun e u' => e = .returned (.int .u32 (z : Nat)) ∧ ∃ m, u' = u.drewN m) := fun u hu => by
              rw [HZ.out]
              exact replace_ok (w.heap.size + 1) 0 y u hu
            go_quiet ((first | (go_at_call 54; exact Calls.quiet_of_same (K54.out _)) | (go_at_call 53; exact Calls.quiet_of (K53.out _ (Tab.drewN HR.out.2 _)))))
            go_wp2
            refine ⟨⟨m + 1, by omega, val_eq (by have := HI.out; omega), ?_⟩, ?_⟩
            · have hzl : z < 4294967296 := by rw [HZ.out]; exact subw_lt _
              refine sch_next ⟨HR.out.1.drewN _, Tab.drewN HR.out.2 _⟩ HI.out hi60 _ (v := Nat.xor xm (Nat.xor z (rc * 16777216))) ?_ ?_
              · rw [show ((rc : Int) * 16777216) = ((rc * 16777216 : Nat) : Int) by omega, xor32 _ _ hzl (by omega), xor32 _ _ HLm.out (xor_lt32 hzl (by omega))]
              · unfold nextW
                rw [← HI.out, if_pos hz, show ii - nk = m by have := HI.out; omega, ← HXM.out, ← HP.out, ← HXP.out, ← HY.out, ← HZ.out, ← HD.out, ← HE.out, ← HRc.out]
            · simp only [intOf]; have := HI.out; omega
          · obtain ⟨r, HRr⟩ : ∃ r, Hid (r = ii % nk) := ⟨_, rfl⟩
            rw [← HRr.out] at hmod
            have hr0 : (((r : Nat) : Int) == 0) = false := by have := HRr.out; simp; omega
            obtain ⟨r8, HR8⟩ : ∃ r, Hid (r = ii % 8) := ⟨_, rfl⟩
            have hmod8 : ((ii : Nat) : Int).tmod 8 = ((r8 : Nat) : Int) := by rw [HR8.out]; exact (Int.ofNat_tmod ii 8).symm
            by_cases h8 : nk = 8
            · have hb8 : (((nk : Nat) : Int) == 8) = true := by simp; omega
              have H8 : Hid (nk = 8) := h8
              clear h8
              by_cases h4 : r8 = 4
              · have hb4 : (((r8 : Nat) : Int) == 4) = true := by simp; omega
                have H4 : Hid (r8 = 4) := h4
                clear h4
                obtain ⟨z, HZ⟩ : ∃ z, Hid (z = subw xp) := ⟨_, rfl⟩
                have K53 : Hid (Calls Tryd.prog 53 #[.pointer (some ⟨w.heap.size + 1, 0, none⟩), .int .u32 (xp : Nat)] wr fun e u' => e = .returned (.int .u32 (z : Nat)) ∧ ∃ m, u' = wr.drewN m) := by
                  rw [HZ.out]
                  exact replace_ok (w.heap.size + 1) 0 xp wr HR.out.2
                go_wp2_with (first | (go_at_call 42; refine KW.out.mono ?_; rintro e4 w4 ⟨rfl, hw4⟩; obtain rfl := hw4.symm) | (go_at_call 53; refine K53.out.mono ?_; rintro e5 w5 ⟨rfl, q5, rfl⟩))
                refine ⟨⟨m + 1, by omega, val_eq (by have := HI.out; omega), ?_⟩, ?_⟩
                · have hzl : z < 4294967296 := by rw [HZ.out]; exact subw_lt _
                  refine sch_next ⟨HR.out.1.drewN _, Tab.drewN HR.out.2 _⟩ HI.out hi60 _ (v := Nat.xor xm z) ?_ ?_
                  · rw [xor32 _ _ HLm.out hzl]
                  · unfold nextW
                    rw [← HI.out, if_neg hz, if_pos ⟨H8.out, by rw [← HR8.out]; exact H4.out⟩, show ii - nk = m by have := HI.out; omega, ← HXM.out, ← HP.out, ← HXP.out, ← HZ.out]
                · simp only [intOf]; have := HI.out; omega
              · have hb4 : (((r8 : Nat) : Int) == 4) = false := by simp; omega
                go_wp2_with (first | (go_at_call 42; refine KW.out.mono ?_; rintro e4 w4 ⟨rfl, hw4⟩; obtain rfl := hw4.symm))
                refine ⟨⟨m + 1, by omega, val_eq (by have := HI.out; omega), ?_⟩, ?_⟩
                · refine sch_next HR.out HI.out hi60 _ (v := Nat.xor xm xp) ?_ ?_
                  · rw [xor32 _ _ HLm.out HLp.out]
                  · unfold nextW
                    rw [← HI.out, if_neg hz, if_neg (fun h => h4 (by rw [HR8.out]; exact h.2)), show ii - nk = m by have := HI.out; omega, ← HXM.out, ← HP.out, ← HXP.out]
                · simp only [intOf]; have := HI.out; omega
            · have hb8 : (((nk : Nat) : Int) == 8) = false := by simp; omega
              go_wp2_with (first | (go_at_call 42; refine KW.out.mono ?_; rintro e4 w4 ⟨rfl, hw4⟩; obtain rfl := hw4.symm))
              refine ⟨⟨m + 1, by omega, val_eq (by have := HI.out; omega), ?_⟩, ?_⟩
              · refine sch_next HR.out HI.out hi60 _ (v := Nat.xor xm xp) ?_ ?_
                · rw [xor32 _ _ HLm.out HLp.out]
                · unfold nextW
                  rw [← HI.out, if_neg hz, if_neg (fun h => h8 h.1), show ii - nk = m by have := HI.out; omega, ← HXM.out, ← HP.out, ← HXP.out]
              · simp only [intOf]; have := HI.out; omega
        · have hit : ((tot : Nat) : Int) ≤ ((ii : Nat) : Int) := by have h1 := HI.out; have h2 := HTOT.out; omega
          have hm' : m = 3 * nk + 28 := by omega
          obtain ⟨L, HL⟩ : ∃ L, Hid (L = cipL (nk + 6) (schedK nk key)) := ⟨_, rfl⟩
          have HLr : Hid (wr.rangeAt (w.heap.size + 1) 0 L) := by
            show World.rangeAt _ _ _ _
            rw [HL.out]
            have e : schedK nk key = goW nk K0 m := by rw [HK0.out, hm']; unfold schedK; rw [← HN.out]
            rw [e]
            exact cipL_range HR.out.1.rounds (fun i hi => by rw [Nat.zero_add]; exact HR.out.1.words i hi) HR.out.2
          have HLl : Hid (L.length = 1085) := by show _ = _; rw [HL.out]; exact cipL_length _ _
          have HLo : Hid (L.toArray.all (·.oneCell') = true) := by show _ = _; rw [HL.out]; exact cipL_one _ _
          have HST : Hid (wr.there w.heap.size 0 L.length) := by show World.there _ _ _ _; rw [HLl.out]; exact HR.out.1.res
          have hst : Sem.run Tryd.prog (storeCells ⟨w.heap.size, 0, none⟩ L) wr = .ok () (wr.setCells w.heap.size 0 L) :=
            run_storeCells_cells (P := Tryd.prog) w.heap.size 0 L 0 wr (fun j hj => by have := (HST.out j hj).1; simpa using this) (fun j hj => by have := (HST.out j hj).2; simpa using this) (fun v hv => (Array.all_eq_true_iff_forall_mem.1 HLo.out) v (by simpa using hv))
          clear hm hlt
          go_wp2_with (first
            | (go_at_call 42; refine KW.out.mono ?_; rintro e4 w4 ⟨rfl, hw4⟩; obtain rfl := hw4.symm)
            | (refine wpList_load_mid (by rfl) 68 (.tmp 4) (by rfl) (w.heap.size + 1) 0 (by rfl) L _ HLr.out Tryd.underlying68 rfl (by rw [HLl.out]; exact size68) ?_)
            | fail)
          refine ret_array L Tryd.results36 rfl (World.rangeAt_setCells_same _ _ _ _ HST.out) Tryd.underlying68 rfl (by rw [HLl.out]; exact size68) ⟨by rw [HL.out], belowB_setCells _ (Nat.le_refl _) _ _ _ HR.out.1.old⟩
end Go.Proofs.YtgmfiljjogdccaaDoor
namespace Go.Proofs.YtgmfiljjogdccaaDoor
open Go.RowKit
set_option linter.unusedVariables false
/-- A row of cells laid over another from off on. -/
theorem over_at (off : Nat) : ∀ (L : List Value) (k : Nat) (z : Array Value) (i : Nat), ((L.zipIdx k).foldl (fun cs (x : Value × Nat) => cs.setIfInBounds (off + x.2) x.1) z)[i]? =
    if off + k ≤ i ∧ i < off + k + L.length ∧ i < z.size then L[i - (off + k)]? else z[i]?
  | [], k, z, i => by simp; omega
  | v :: r, k, z, i => by
    rw [List.zipIdx_cons, List.foldl_cons, over_at off r (k + 1)]
    simp only [Array.size_setIfInBounds, List.length_cons]
    by_cases h1 : off + (k + 1) ≤ i ∧ i < off + (k + 1) + r.length ∧ i < z.size
    · rw [if_pos h1, if_pos (by omega)]
      rw [show i - (off + k) = (i - (off + (k + 1))) + 1 by omega, List.getElem?_cons_succ]
    · rw [if_neg h1]
      by_cases h2 : i = off + k
      · subst h2
        by_cases h3 : off + k < z.size
        · rw [Array.getElem?_setIfInBounds_self_of_lt h3, if_pos (by omega), Nat.sub_self]; rfl
        · rw [if_neg (by omega)]
          rw [Array.getElem?_eq_none (by simp; omega), Array.getElem?_eq_none (by omega)]
      · rw [Array.getElem?_setIfInBounds_ne (by omega), if_neg (by omega)]
theorem over_size (off : Nat) : ∀ (L : List Value) (k : Nat) (z : Array Value), ((L.zipIdx k).foldl (fun cs (x : Value × Nat) => cs.setIfInBounds (off + x.2) x.1) z).size = z.size
  | [], k, z => rfl
  | v :: r, k, z => by rw [List.zipIdx_cons, List.foldl_cons, over_size off r (k + 1)]; simp
theorem zero82 : ((Tryd.prog.info? 82).bind (·.zero)).map (fun z => z.cells.size) = some 1091 := by kernel_rfl
theorem size82 : (Tryd.prog.info? 82).map (·.size) = some 1091 := by kernel_rfl
theorem zsize82 : Tryd.zeroCells82.size = 1091 := by kernel_rfl
theorem zhead82 : Tryd.zeroCells82.toList.take 6 = [.int .i32 0, .int .u32 0, .int .u32 0, .int .u32 0, .int .i32 0, .int .i32 0] := by kernel_rfl
theorem zcells82 : ((Tryd.prog.info? 82).bind (·.zero)).map (·.cells) = some Tryd.zeroCells82 := by kernel_rfl
theorem built82 (L : List Value) (hL : L.length = 1085) : ∃ R, Tryd.prog.built 82 [(1, .agg L.toArray)] = some R ∧ R.size = 1091 ∧ (∀ i, i < 6 → R[i]? = Tryd.zeroCells82[i]?) ∧ ∀ j v, L[j]? = some v → R[6 + j]? = some v := by
  refine ⟨(L.zipIdx 0).foldl (fun cs (x : Value × Nat) => cs.setIfInBounds (6 + x.2) x.1) Tryd.zeroCells82, ?_, ?_, fun i hi => ?_, fun j v hv => ?_⟩
  · have hzc := zcells82
    have hu := Tryd.underlying82
    have hus : ∃ fs, Tryd.prog.underlying 82 = some (.struct fs) ∧ fs.toList.mapM (fun f => (Tryd.prog.info? f.type).map fun i => (f.offset, i.size)) = some [(0, 6), (6, 1085)] := ⟨_, hu, by kernel_rfl⟩
    obtain ⟨fs, hu', hp⟩ := hus
    cases hq : Tryd.prog.info? 82 with
    | none => rw [hq] at hzc; cases hzc
    | some it =>
      rw [hq] at hzc
      cases hz : it.zero with
      | none => simp [hz] at hzc
      | some z =>
        have hzz : z.cells = Tryd.zeroCells82 := by simpa [hz] using hzc
        have hsz : z.cells.size = 1091 := by rw [hzz]; exact zsize82
        unfold Program.built
        rw [hq, hu']
        simp only [hz, hp]
        rw [hzz]
        unfold Instr.fill
        simp only [List.getElem?_toArray, List.getElem?_cons_succ, List.getElem?_cons_zero, Value.cells, List.size_toArray, hL]
        rw [if_neg (by rw [zsize82]; decide)]
        unfold Instr.fill
        simp
  · rw [over_size]; exact zsize82
  · rw [over_at, if_neg (by omega)]
  · have hj : j < L.length := (List.getElem?_eq_some_iff.1 hv).1
    rw [over_at, if_pos (by rw [zsize82]; omega), show 6 + j - (6 + 0) = j by omega]
    exact hv
/-- A key at g. -/
structure KeyAt (w : World) (g nr : Nat) (K : Nat → Nat) : Prop where
  ciph : Ciph w g 6 nr K
  count : w.cell? ⟨g, 4, none⟩ = some (.int .i32 0)
  room : w.there g 0 1091
theorem KeyAt.below {B : Nat} {w w' : World} {g nr : Nat} {K : Nat → Nat} (h : KeyAt w g nr K) (hb : Below B w w') (hg : g < B) : KeyAt w' g nr K :=
  ⟨h.ciph.below hb hg, (hb.cell hg).trans h.count, there_below h.room hb hg⟩
theorem keyAt_alloc (w : World) (R : Array Value) (nr : Nat) (K : Nat → Nat) (hs : R.size = 1091) (h6 : ∀ i, i < 6 → R[i]? = Tryd.zeroCells82[i]?) (hL : ∀ j v, (cipL nr K)[j]? = some v → R[6 + j]? = some v) (h1 : 1 ≤ nr) (h14 : nr ≤ 14) (hK : ∀ i, K i < 4294967296) :
    KeyAt (w.alloc (.cells R 82)) w.heap.size nr K := by
  have hc : ∀ i : Nat, (w.alloc (.cells R 82)).cell? ⟨w.heap.size, i, none⟩ = R[i]? := fun i => by
    rw [World.cell?_alloc_at R 82 _ _ rfl]
  refine ⟨ciph_of_range (fun j v hv => ?_) (by simp) h1 h14 hK, ?_, there_new w R 82 1091 (by rw [hs]; exact Nat.le_refl _)⟩
  · rw [hc]; exact hL j v hv
  · rw [hc, h6 4 (by decide), ← Array.getElem?_toList]
    have h := congrArg (fun l => l[4]?) zhead82
    simp only [List.getElem?_take_of_lt (show 4 < 6 by decide)] at h
    rw [h]; rfl
set_option maxHeartbeats 3200000 in
set_option maxRecDepth 100000 in
theorem new_ok (kb ko n cap nk : Nat) (key : Nat → Nat) (w : World) (hnk : nk = 4 ∨ nk = 6 ∨ nk = 8) (hn : n = 4 * nk) (hkb : kb < w.heap.size) (hcell : ∀ i, i < n → w.cell? ⟨kb, ko + i, none⟩ = some (.int .u8 (key i : Nat))) (hkey : ∀ i, key i < 256) (hrc : RC w) (hpos : 0 < w.heap.size) :
    Calls Tryd.prog 9 #[.slice (some ⟨kb, ko, none⟩) n cap] w fun e w' => ∃ g, e = .returned (.tuple #[.pointer (some ⟨g, 0, none⟩), .int .i64 0]) ∧ w.heap.size ≤ g ∧ KeyAt w' g (nk + 6) (schedK nk key) ∧ Below w.heap.size w w' := by
  obtain ⟨L, HL⟩ : ∃ L, Hid (L = cipL (nk + 6) (schedK nk key)) := ⟨_, rfl⟩
  have KS : Hid (Calls Tryd.prog 36 #[.slice (some ⟨kb, ko, none⟩) n cap] w fun e w' => e = .returned (.agg L.toArray) ∧ Below w.heap.size w w') := by
    rw [HL.out]
    exact sched_ok kb ko n cap nk key w hnk hn hkb hcell hkey hrc hpos
  obtain ⟨R, hR1, hR2, hR3, hR4⟩ := built82 L (by rw [HL.out]; exact cipL_length _ _)
  have HR : Hid (Tryd.prog.built 82 [(1, .agg L.toArray)] = some R) := hR1
  have HR2 : Hid (R.size = 1091 ∧ (∀ i, i < 6 → R[i]? = Tryd.zeroCells82[i]?) ∧ ∀ j v, (cipL (nk + 6) (schedK nk key))[j]? = some v → R[6 + j]? = some v) := ⟨hR2, hR3, by rw [← HL.out]; exact hR4⟩
  have HKl : Hid (1 ≤ nk + 6 ∧ nk + 6 ≤ 14 ∧ ∀ i, schedK nk key i < 4294967296) := ⟨by omega, by omega, schedK_lt hkey⟩
  clear hR1 hR2 hR3 hR4 hcell hkey hrc hkb hpos
  rcases hnk with rfl | rfl | rfl
  all_goals subst hn
  all_goals go_enter Tryd.func9, Tryd.ntmps9
  all_goals go_wp2_with (first
    | (go_at_call 36; refine KS.out.mono ?_)
    | fail)
  all_goals rintro e1 w1 ⟨rfl, hb1⟩
  all_goals (have HB : Hid (Below w.heap.size w w1) := hb1)
  all_goals clear hb1
  all_goals go_wp2_with (first
    | (refine wpList_build_big (by rfl) 82 #[(1, .tmp 11)] (by rfl) R (by simp only [List.map_toArray, List.map_cons, List.map_nil]; exact HR.out) ?_)
    | fail)
  all_goals go_ret2
  all_goals exact ⟨w1.heap.size, rfl, HB.out.size, keyAt_alloc w1 R _ _ HR2.out.1 HR2.out.2.1 HR2.out.2.2 HKl.out.1 HKl.out.2.1 HKl.out.2.2, HB.out.alloc HB.out.size _⟩
theorem new_bad (a : Option Addr) (n cap : Nat) (w : World) (h : n ≠ 16 ∧ n ≠ 24 ∧ n ≠ 32) : Calls Tryd.prog 9 #[.slice a n cap] w fun e w' => e = .returned (.tuple #[.pointer none, .int .i64 20]) ∧ w' = w := by
  have h1 : (((n : Nat) : Int) == 16) = false := by simp; omega
  have h2 : (((n : Nat) : Int) == 24) = false := by simp; omega
  have h3 : (((n : Nat) : Int) == 32) = false := by simp; omega
  clear h
  go_enter Tryd.func9, Tryd.ntmps9
  go_wp2
  go_ret2
  exact ⟨rfl, rfl⟩
end Go.Proofs.YtgmfiljjogdccaaDoor
namespace Go.Proofs.YtgmfiljjogdccaaDoor
open Go.RowKit
set_option linter.unusedVariables false
set_option linter.unusedSimpArgs false
theorem below_setCells (b : Nat) {B : Nat} (hB : B ≤ b) {a : World} : ∀ (vs : List Value) (o : Nat) (w : World), Below B a w → Below B a (w.setCells b o vs)
  | [], _, _, h => h
  | v :: r, o, w, h => by rw [World.setCells]; exact below_setCells b hB r (o + 1) _ (h.setCell hB _)
theorem size_setCells (b : Nat) : ∀ (vs : List Value) (o : Nat) (w : World), (w.setCells b o vs).heap.size = w.heap.size
  | [], _, _ => rfl
  | v :: r, o, w => by rw [World.setCells, size_setCells b r (o + 1)]; simp [World.setCell]
theorem range4 {w : World} {b : Nat} {x0 x1 x2 x3 : Value} (h : w.rangeAt b 0 [x0, x1, x2, x3]) : w.cell? ⟨b, 0, none⟩ = some x0 ∧ w.cell? ⟨b, 1, none⟩ = some x1 ∧ w.cell? ⟨b, 2, none⟩ = some x2 ∧ w.cell? ⟨b, 3, none⟩ = some x3 :=
  ⟨h 0 _ rfl, h 1 _ rfl, h 2 _ rfl, h 3 _ rfl⟩
theorem there_two (w : World) (A C : Array Value) (t t' : TypeId) {n : Nat} (hn : C.size = n) : ((w.alloc (.cells A t)).alloc (.cells C t')).there (w.heap.size + 1) 0 n := fun j hj => by
  subst hn
  have hsz : (w.alloc (.cells A t)).heap.size = w.heap.size + 1 := by simp
  refine ⟨?_, World.frozen?_alloc_at C t' _ _ (by simp)⟩
  rw [World.cell?_alloc_at C t' _ _ (by simp)]
  simp
  exact hj
theorem size115 : (Tryd.prog.info? 115).map (·.size) = some 4 := by kernel_rfl
theorem size42 : (Tryd.prog.info? 42).map (·.size) = some 16 := by kernel_rfl
theorem add_d {g o nr : Nat} {K : Nat → Nat} (r : Nat) (hr : r ≤ nr) (s t : W4) (hs : s.ok) (ht : t = addK K r s) : ∀ u, Ciph u g o nr K →
    Calls Tryd.prog 63 #[.pointer (some ⟨g, o, none⟩), s.val, .int .i64 (r : Nat)] u fun e u' => e = .returned t.val ∧ Below u.heap.size u u' := fun u hC => add_c hC hC.here (Nat.le_refl _) r hr s t hs ht u (Below.refl _ _)
set_option maxHeartbeats 6400000 in
set_option maxRecDepth 100000 in
theorem enc_ok (g o nr : Nat) (K : Nat → Nat) (s : W4) (w : World) (hC : Ciph w g o nr K) (hs : s.ok) :
    Calls Tryd.prog 43 #[.pointer (some ⟨g, o, none⟩), s.blk] w fun e w' => e = .returned (encW nr K s).blk ∧ Below w.heap.size w w' := by
  have HC : Hid (Ciph w g o nr K) := hC
  have hnr := hC.most
  have hn1 := hC.some
  clear hC
  have HS : Hid s.ok := hs
  clear hs
  obtain ⟨⟨t0, t1, t2, t3⟩, HT⟩ : ∃ t, Hid (t = addK K 0 s) := ⟨_, rfl⟩
  have HTok : Hid (W4.ok ⟨t0, t1, t2, t3⟩) := by show W4.ok _; rw [HT.out]; exact addK_ok HC.out.small _ HS.out
  have HFB : Hid (∀ u, Calls Tryd.prog 64 #[.agg #[.int .u8 (bt0 s.a : Nat), .int .u8 (bt1 s.a : Nat), .int .u8 (bt2 s.a : Nat), .int .u8 (bt3 s.a : Nat), .int .u8 (bt0 s.b : Nat), .int .u8 (bt1 s.b : Nat), .int .u8 (bt2 s.b : Nat), .int .u8 (bt3 s.b : Nat), .int .u8 (bt0 s.c : Nat), .int .u8 (bt1 s.c : Nat), .int .u8 (bt2 s.c : Nat), .int .u8 (bt3 s.c : Nat), .int .u8 (bt0 s.d : Nat), .int .u8 (bt1 s.d : Nat), .int .u8 (bt2 s.d : Nat), .int .u8 (bt3 s.d : Nat)]] u fun e u' => e = .returned s.val ∧ Below u.heap.size u u') := fun u => from_c s HS.out u
  have HA0 : Hid (∀ u, Ciph u g o nr K → Calls Tryd.prog 63 #[.pointer (some ⟨g, o, none⟩), s.val, .int .i64 0] u fun e u' => e = .returned (.agg #[.int .u32 (t0 : Nat), .int .u32 (t1 : Nat), .int .u32 (t2 : Nat), .int .u32 (t3 : Nat)]) ∧ Below u.heap.size u u') := add_d 0 (Nat.zero_le _) s ⟨t0, t1, t2, t3⟩ HS.out HT.out
  show Calls Tryd.prog 43 #[.pointer (some ⟨g, o, none⟩), .agg #[.int .u8 (bt0 s.a : Nat), .int .u8 (bt1 s.a : Nat), .int .u8 (bt2 s.a : Nat), .int .u8 (bt3 s.a : Nat), .int .u8 (bt0 s.b : Nat), .int .u8 (bt1 s.b : Nat), .int .u8 (bt2 s.b : Nat), .int .u8 (bt3 s.b : Nat), .int .u8 (bt0 s.c : Nat), .int .u8 (bt1 s.c : Nat), .int .u8 (bt2 s.c : Nat), .int .u8 (bt3 s.c : Nat), .int .u8 (bt0 s.d : Nat), .int .u8 (bt1 s.d : Nat), .int .u8 (bt2 s.d : Nat), .int .u8 (bt3 s.d : Nat)]] w _
  go_enter Tryd.func43, Tryd.ntmps43
  go_wp2_with (first
    | (go_at_call 64; refine (HFB.out _).mono ?_)
    | fail)
  rintro e1 w1 ⟨rfl, hb1⟩
  have H1 : Hid (Below w.heap.size w w1 ∧ w.heap.size + 2 ≤ w1.heap.size ∧ w1.there (w.heap.size + 1) 0 16) := by
    refine ⟨(two_allocs w _ _ 42 42).1.trans (hb1.mono (by simp; omega)), ?_, there_below (there_two w _ _ 42 42 rfl) hb1 (by simp)⟩
    have := hb1.size
    simpa using this
  clear hb1 HFB
  have HC1 : Hid (Ciph w1 g o nr K) := HC.out.below H1.out.1 HC.out.here
  go_wp2_with (first
    | (go_at_call 63; refine (HA0.out _ HC1.out).mono ?_)
    | fail)
  rintro e2 w2 ⟨rfl, hb2⟩
  have H2 : Hid (Below w.heap.size w w2 ∧ w.heap.size + 2 ≤ w2.heap.size ∧ w2.there (w.heap.size + 1) 0 16) := by
    obtain ⟨p1, p2, p3⟩ := H1.out
    exact ⟨p1.trans (hb2.mono p1.size), Nat.le_trans p2 hb2.size, there_below p3 hb2 (by omega)⟩
  clear hb2 HA0 H1 HC1
  have HC2 : Hid (Ciph w2 g o nr K) := HC.out.below H2.out.1 HC.out.here
  go_wp2
  obtain ⟨A, HAw⟩ : ∃ A, Hid (w2.heap.size = A) := ⟨_, rfl⟩
  rw [HAw.out]
  go_loopw [6] (fun i wr => ∃ r x0 x1 x2 x3 : Nat, 1 ≤ r ∧ r ≤ nr ∧ i = .int .i64 r ∧ Hid ((⟨x0, x1, x2, x3⟩ : W4) = iterE K (r - 1) ⟨t0, t1, t2, t3⟩) ∧ Hid (W4.ok ⟨x0, x1, x2, x3⟩) ∧ Hid (Below A w2 wr ∧ A < wr.heap.size ∧ wr.rangeAt A 0 [.int .u32 (x0 : Nat), .int .u32 (x1 : Nat), .int .u32 (x2 : Nat), .int .u32 (x3 : Nat)] ∧ wr.there A 0 4)) (fun i _ => nr - (intOf i).toNat)
  case atStart =>
    rw [← HAw.out]
    refine ⟨1, t0, t1, t2, t3, by omega, hn1, rfl, (rfl : (⟨t0, t1, t2, t3⟩ : W4) = _), HTok.out, (Below.refl _ w2).alloc (Nat.le_refl _) _, by simp, fun j v hv => ?_, fun j hj => ⟨?_, ?_⟩⟩
    · have h := range_alloc w2 #[.int .u32 (t0 : Nat), .int .u32 (t1 : Nat), .int .u32 (t2 : Nat), .int .u32 (t3 : Nat)] 115 j v hv
      exact h
    · rw [World.cell?_alloc_at _ _ _ _ rfl]
      simp
      omega
    · exact World.frozen?_alloc_at _ _ _ _ rfl
  case round =>
    obtain ⟨r, x0, x1, x2, x3, hr1, hr2, rfl, HX, HXok, HW⟩ := hrel
    have HCr : Hid (Ciph wr g o nr K) := HC2.out.below HW.out.1 (by rw [← HAw.out]; exact HC2.out.here)
    have hrd : wr.cell? ⟨g, o, none⟩ = some (.int .i64 (nr : Nat)) := HCr.out.rounds
    have HgA : Hid (g < A) := by show g < A; rw [← HAw.out]; exact HC2.out.here
    by_cases hlt : r < nr
    · obtain ⟨⟨m0, m1, m2, m3⟩, HM⟩ : ∃ m, Hid (m = mixS ⟨x0, x1, x2, x3⟩) := ⟨_, rfl⟩
      obtain ⟨⟨n0, n1, n2, n3⟩, HN⟩ : ∃ m, Hid (m = addK K r ⟨m0, m1, m2, m3⟩) := ⟨_, rfl⟩
      have HMok : Hid (W4.ok ⟨m0, m1, m2, m3⟩) := by show W4.ok _; rw [HM.out]; exact mixS_ok _
      have HNok : Hid (W4.ok ⟨n0, n1, n2, n3⟩) := by show W4.ok _; rw [HN.out]; exact addK_ok HCr.out.small _ HMok.out
      have hgA1 : g < A + 1 := Nat.lt_succ_of_lt HgA.out
      have k0 : Hid (∀ u, Below (A + 1) wr u → Calls Tryd.prog 65 #[.pointer (some ⟨g, o, none⟩), .int .u32 (x0 : Nat), .int .u32 (x1 : Nat), .int .u32 (x2 : Nat), .int .u32 (x3 : Nat)] u fun e u' => e = .returned (.int .u32 (m0 : Nat)) ∧ Below (A + 1) wr u') := mix_c HCr.out hgA1 x0 x1 x2 x3 m0 (congrArg W4.a HM.out)
      have k1 : Hid (∀ u, Below (A + 1) wr u → Calls Tryd.prog 65 #[.pointer (some ⟨g, o, none⟩), .int .u32 (x1 : Nat), .int .u32 (x2 : Nat), .int .u32 (x3 : Nat), .int .u32 (x0 : Nat)] u fun e u' => e = .returned (.int .u32 (m1 : Nat)) ∧ Below (A + 1) wr u') := mix_c HCr.out hgA1 x1 x2 x3 x0 m1 (congrArg W4.b HM.out)
      have k2 : Hid (∀ u, Below (A + 1) wr u → Calls Tryd.prog 65 #[.pointer (some ⟨g, o, none⟩), .int .u32 (x2 : Nat), .int .u32 (x3 : Nat), .int .u32 (x0 : Nat), .int .u32 (x1 : Nat)] u fun e u' => e = .returned (.int .u32 (m2 : Nat)) ∧ Below (A + 1) wr u') := mix_c HCr.out hgA1 x2 x3 x0 x1 m2 (congrArg W4.c HM.out)
      have k3 : Hid (∀ u, Below (A + 1) wr u → Calls Tryd.prog 65 #[.pointer (some ⟨g, o, none⟩), .int .u32 (x3 : Nat), .int .u32 (x0 : Nat), .int .u32 (x1 : Nat), .int .u32 (x2 : Nat)] u fun e u' => e = .returned (.int .u32 (m3 : Nat)) ∧ Below (A + 1) wr u') := mix_c HCr.out hgA1 x3 x0 x1 x2 m3 (congrArg W4.d HM.out)
      have ka : Hid (∀ u, Below (A + 1) wr u → Calls Tryd.prog 63 #[.pointer (some ⟨g, o, none⟩), .agg #[.int .u32 (m0 : Nat), .int .u32 (m1 : Nat), .int .u32 (m2 : Nat), .int .u32 (m3 : Nat)], .int .i64 (r : Nat)] u fun e u' => e = .returned (.agg #[.int .u32 (n0 : Nat), .int .u32 (n1 : Nat), .int .u32 (n2 : Nat), .int .u32 (n3 : Nat)]) ∧ Below (A + 1) wr u') := add_c HCr.out hgA1 HW.out.2.1 r (Nat.le_of_lt hlt) ⟨m0, m1, m2, m3⟩ ⟨n0, n1, n2, n3⟩ HMok.out HN.out
      have g0 : Hid (∀ u, Below (A + 1) wr u → u.cell? ⟨A, 0, none⟩ = some (.int .u32 (x0 : Nat))) := fun u hu => (hu.cell (Nat.lt_succ_self A)).trans (range4 HW.out.2.2.1).1
      have g1 : Hid (∀ u, Below (A + 1) wr u → u.cell? ⟨A, 1, none⟩ = some (.int .u32 (x1 : Nat))) := fun u hu => (hu.cell (Nat.lt_succ_self A)).trans (range4 HW.out.2.2.1).2.1
      have g2 : Hid (∀ u, Below (A + 1) wr u → u.cell? ⟨A, 2, none⟩ = some (.int .u32 (x2 : Nat))) := fun u hu => (hu.cell (Nat.lt_succ_self A)).trans (range4 HW.out.2.2.1).2.2.1
      have g3 : Hid (∀ u, Below (A + 1) wr u → u.cell? ⟨A, 3, none⟩ = some (.int .u32 (x3 : Nat))) := fun u hu => (hu.cell (Nat.lt_succ_self A)).trans (range4 HW.out.2.2.1).2.2.2
      clear hgA1
      go_wp2
      have hS0 : Below (A + 1) wr wr.drew := (Below.refl _ _).drew
      refine wp_region_noPanic ?_
      refine wp_region_till (fun u => Below (A + 1) wr u) 43 (by kernel_rfl) (by decide) (by kernel_rfl) (by kernel_rfl) (by kernel_rfl) (fun inv => ?_)
      refine till_at 0 19 (.pointer (some ⟨g, o, none⟩)) inv rfl rfl (by decide) (by kernel_rfl) (by kernel_rfl) (fun _ _ _ h => h) (hS0) (Or.inl ⟨by rfl, fun w' hS' => by go_simp⟩) (fun inv' => ?_)
      clear inv; have inv := inv'; clear inv'
      simp only [List.setIfInBounds_toArray, List.set_cons_zero, List.set_cons_succ]
      refine till_at 1 20 (.pointer (some ⟨g, o, none⟩)) inv rfl rfl (by decide) (by kernel_rfl) (by kernel_rfl) (fun _ _ _ h => h) (hS0) (Or.inl ⟨by rfl, fun w' hS' => by go_simp⟩) (fun inv' => ?_)
      clear inv; have inv := inv'; clear inv'
      simp only [List.setIfInBounds_toArray, List.set_cons_zero, List.set_cons_succ]
      refine till_at 2 21 (.pointer (some ⟨A, 0, none⟩)) inv rfl rfl (by decide) (by kernel_rfl) (by kernel_rfl) (fun _ _ _ h => h) (hS0) (Or.inl ⟨by rfl, fun w' hS' => by go_simp⟩) (fun inv' => ?_)
      clear inv; have inv := inv'; clear inv'
      simp only [List.setIfInBounds_toArray, List.set_cons_zero, List.set_cons_succ]
      refine till_at 3 22 (.int .u32 (x0 : Nat)) inv rfl rfl (by decide) (by kernel_rfl) (by kernel_rfl) (fun _ _ _ h => h) (hS0) (Or.inl ⟨by rfl, fun w' hS' => by have q := g0.out w' hS'; go_simp⟩) (fun inv' => ?_)
      clear inv; have inv := inv'; clear inv'
      simp only [List.setIfInBounds_toArray, List.set_cons_zero, List.set_cons_succ]
      refine till_at 4 23 (.pointer (some ⟨A, 1, none⟩)) inv rfl rfl (by decide) (by kernel_rfl) (by kernel_rfl) (fun _ _ _ h => h) (hS0) (Or.inl ⟨by rfl, fun w' hS' => by go_simp⟩) (fun inv' => ?_)
      clear inv; have inv := inv'; clear inv'
      simp only [List.setIfInBounds_toArray, List.set_cons_zero, List.set_cons_succ]
      refine till_at 5 24 (.int .u32 (x1 : Nat)) inv rfl rfl (by decide) (by kernel_rfl) (by kernel_rfl) (fun _ _ _ h => h) (hS0) (Or.inl ⟨by rfl, fun w' hS' => by have q := g1.out w' hS'; go_simp⟩) (fun inv' => ?_)
      clear inv; have inv := inv'; clear inv'
      simp only [List.setIfInBounds_toArray, List.set_cons_zero, List.set_cons_succ]
      refine till_at 6 25 (.pointer (some ⟨A, 2, none⟩)) inv rfl rfl (by decide) (by kernel_rfl) (by kernel_rfl) (fun _ _ _ h => h) (hS0) (Or.inl ⟨by rfl, fun w' hS' => by go_simp⟩) (fun inv' => ?_)
      clear inv; have inv := inv'; clear inv'
      simp only [List.setIfInBounds_toArray, List.set_cons_zero, List.set_cons_succ]
      refine till_at 7 26 (.int .u32 (x2 : Nat)) inv rfl rfl (by decide) (by kernel_rfl) (by kernel_rfl) (fun _ _ _ h => h) (hS0) (Or.inl ⟨by rfl, fun w' hS' => by have q := g2.out w' hS'; go_simp⟩) (fun inv' => ?_)
      clear inv; have inv := inv'; clear inv'
      simp only [List.setIfInBounds_toArray, List.set_cons_zero, List.set_cons_succ]
      refine till_at 8 27 (.pointer (some ⟨A, 3, none⟩)) inv rfl rfl (by decide) (by kernel_rfl) (by kernel_rfl) (fun _ _ _ h => h) (hS0) (Or.inl ⟨by rfl, fun w' hS' => by go_simp⟩) (fun inv' => ?_)
      clear inv; have inv := inv'; clear inv'
      simp only [List.setIfInBounds_toArray, List.set_cons_zero, List.set_cons_succ]
      refine till_at 9 28 (.int .u32 (x3 : Nat)) inv rfl rfl (by decide) (by kernel_rfl) (by kernel_rfl) (fun _ _ _ h => h) (hS0) (Or.inl ⟨by rfl, fun w' hS' => by have q := g3.out w' hS'; go_simp⟩) (fun inv' => ?_)
      clear inv; have inv := inv'; clear inv'
      simp only [List.setIfInBounds_toArray, List.set_cons_zero, List.set_cons_succ]
      refine till_at 11 30 (.pointer (some ⟨g, o, none⟩)) inv rfl rfl (by decide) (by kernel_rfl) (by kernel_rfl) (fun _ _ _ h => h) (hS0) (Or.inl ⟨by rfl, fun w' hS' => by go_simp⟩) (fun inv' => ?_)
      clear inv; have inv := inv'; clear inv'
      simp only [List.setIfInBounds_toArray, List.set_cons_zero, List.set_cons_succ]
      refine till_at 12 31 (.pointer (some ⟨A, 1, none⟩)) inv rfl rfl (by decide) (by kernel_rfl) (by kernel_rfl) (fun _ _ _ h => h) (hS0) (Or.inl ⟨by rfl, fun w' hS' => by go_simp⟩) (fun inv' => ?_)
      clear inv; have inv := inv'; clear inv'
      simp only [List.setIfInBounds_toArray, List.set_cons_zero, List.set_cons_succ]
      refine till_at 13 32 (.int .u32 (x1 : Nat)) inv rfl rfl (by decide) (by kernel_rfl) (by kernel_rfl) (fun _ _ _ h => h) (hS0) (Or.inl ⟨by rfl, fun w' hS' => by have q := g1.out w' hS'; go_simp⟩) (fun inv' => ?_)
      clear inv; have inv := inv'; clear inv'
      simp only [List.setIfInBounds_toArray, List.set_cons_zero, List.set_cons_succ]
      refine till_at 14 33 (.pointer (some ⟨A, 2, none⟩)) inv rfl rfl (by decide) (by kernel_rfl) (by kernel_rfl) (fun _ _ _ h => h) (hS0) (Or.inl ⟨by rfl, fun w' hS' => by go_simp⟩) (fun inv' => ?_)
      clear inv; have inv := inv'; clear inv'
      simp only [List.setIfInBounds_toArray, List.set_cons_zero, List.set_cons_succ]
      refine till_at 15 34 (.int .u32 (x2 : Nat)) inv rfl rfl (by decide) (by kernel_rfl) (by kernel_rfl) (fun _ _ _ h => h) (hS0) (Or.inl ⟨by rfl, fun w' hS' => by have q := g2.out w' hS'; go_simp⟩) (fun inv' => ?_)
      clear inv; have inv := inv'; clear inv'
      simp only [List.setIfInBounds_toArray, List.set_cons_zero, List.set_cons_succ]
      refine till_at 16 35 (.pointer (some ⟨A, 3, none⟩)) inv rfl rfl (by decide) (by kernel_rfl) (by kernel_rfl) (fun _ _ _ h => h) (hS0) (Or.inl ⟨by rfl, fun w' hS' => by go_simp⟩) (fun inv' => ?_)
      clear inv; have inv := inv'; clear inv'
      simp only [List.setIfInBounds_toArray, List.set_cons_zero, List.set_cons_succ]
      refine till_at 17 36 (.int .u32 (x3 : Nat)) inv rfl rfl (by decide) (by kernel_rfl) (by kernel_rfl) (fun _ _ _ h => h) (hS0) (Or.inl ⟨by rfl, fun w' hS' => by have q := g3.out w' hS'; go_simp⟩) (fun inv' => ?_)
      clear inv; have inv := inv'; clear inv'
      simp only [List.setIfInBounds_toArray, List.set_cons_zero, List.set_cons_succ]
      refine till_at 18 37 (.pointer (some ⟨A, 0, none⟩)) inv rfl rfl (by decide) (by kernel_rfl) (by kernel_rfl) (fun _ _ _ h => h) (hS0) (Or.inl ⟨by rfl, fun w' hS' => by go_simp⟩) (fun inv' => ?_)
      clear inv; have inv := inv'; clear inv'
      simp only [List.setIfInBounds_toArray, List.set_cons_zero, List.set_cons_succ]
      refine till_at 19 38 (.int .u32 (x0 : Nat)) inv rfl rfl (by decide) (by kernel_rfl) (by kernel_rfl) (fun _ _ _ h => h) (hS0) (Or.inl ⟨by rfl, fun w' hS' => by have q := g0.out w' hS'; go_simp⟩) (fun inv' => ?_)
      clear inv; have inv := inv'; clear inv'
      simp only [List.setIfInBounds_toArray, List.set_cons_zero, List.set_cons_succ]
      refine till_at 21 40 (.pointer (some ⟨g, o, none⟩)) inv rfl rfl (by decide) (by kernel_rfl) (by kernel_rfl) (fun _ _ _ h => h) (hS0) (Or.inl ⟨by rfl, fun w' hS' => by go_simp⟩) (fun inv' => ?_)
      clear inv; have inv := inv'; clear inv'
      simp only [List.setIfInBounds_toArray, List.set_cons_zero, List.set_cons_succ]
      refine till_at 22 41 (.pointer (some ⟨A, 2, none⟩)) inv rfl rfl (by decide) (by kernel_rfl) (by kernel_rfl) (fun _ _ _ h => h) (hS0) (Or.inl ⟨by rfl, fun w' hS' => by go_simp⟩) (fun inv' => ?_)
      clear inv; have inv := inv'; clear inv'
      simp only [List.setIfInBounds_toArray, List.set_cons_zero, List.set_cons_succ]
      refine till_at 23 42 (.int .u32 (x2 : Nat)) inv rfl rfl (by decide) (by kernel_rfl) (by kernel_rfl) (fun _ _ _ h => h) (hS0) (Or.inl ⟨by rfl, fun w' hS' => by have q := g2.out w' hS'; go_simp⟩) (fun inv' => ?_)
      clear inv; have inv := inv'; clear inv'
      simp only [List.setIfInBounds_toArray, List.set_cons_zero, List.set_cons_succ]
      refine till_at 24 43 (.pointer (some ⟨A, 3, none⟩)) inv rfl rfl (by decide) (by kernel_rfl) (by kernel_rfl) (fun _ _ _ h => h) (hS0) (Or.inl ⟨by rfl, fun w' hS' => by go_simp⟩) (fun inv' => ?_)
      clear inv; have inv := inv'; clear inv'
      simp only [List.setIfInBounds_toArray, List.set_cons_zero, List.set_cons_succ]
      refine till_at 25 44 (.int .u32 (x3 : Nat)) inv rfl rfl (by decide) (by kernel_rfl) (by kernel_rfl) (fun _ _ _ h => h) (hS0) (Or.inl ⟨by rfl, fun w' hS' => by have q := g3.out w' hS'; go_simp⟩) (fun inv' => ?_)
      clear inv; have inv := inv'; clear inv'
      simp only [List.setIfInBounds_toArray, List.set_cons_zero, List.set_cons_succ]
      refine till_at 26 45 (.pointer (some ⟨A, 0, none⟩)) inv rfl rfl (by decide) (by kernel_rfl) (by kernel_rfl) (fun _ _ _ h => h) (hS0) (Or.inl ⟨by rfl, fun w' hS' => by go_simp⟩) (fun inv' => ?_)
      clear inv; have inv := inv'; clear inv'
      simp only [List.setIfInBounds_toArray, List.set_cons_zero, List.set_cons_succ]
      refine till_at 27 46 (.int .u32 (x0 : Nat)) inv rfl rfl (by decide) (by kernel_rfl) (by kernel_rfl) (fun _ _ _ h => h) (hS0) (Or.inl ⟨by rfl, fun w' hS' => by have q := g0.out w' hS'; go_simp⟩) (fun inv' => ?_)
      clear inv; have inv := inv'; clear inv'
      simp only [List.setIfInBounds_toArray, List.set_cons_zero, List.set_cons_succ]
      refine till_at 28 47 (.pointer (some ⟨A, 1, none⟩)) inv rfl rfl (by decide) (by kernel_rfl) (by kernel_rfl) (fun _ _ _ h => h) (hS0) (Or.inl ⟨by rfl, fun w' hS' => by go_simp⟩) (fun inv' => ?_)
      clear inv; have inv := inv'; clear inv'
      simp only [List.setIfInBounds_toArray, List.set_cons_zero, List.set_cons_succ]
      refine till_at 29 48 (.int .u32 (x1 : Nat)) inv rfl rfl (by decide) (by kernel_rfl) (by kernel_rfl) (fun _ _ _ h => h) (hS0) (Or.inl ⟨by rfl, fun w' hS' => by have q := g1.out w' hS'; go_simp⟩) (fun inv' => ?_)
      clear inv; have inv := inv'; clear inv'
      simp only [List.setIfInBounds_toArray, List.set_cons_zero, List.set_cons_succ]
      refine till_at 31 50 (.pointer (some ⟨g, o, none⟩)) inv rfl rfl (by decide) (by kernel_rfl) (by kernel_rfl) (fun _ _ _ h => h) (hS0) (Or.inl ⟨by rfl, fun w' hS' => by go_simp⟩) (fun inv' => ?_)
      clear inv; have inv := inv'; clear inv'
      simp only [List.setIfInBounds_toArray, List.set_cons_zero, List.set_cons_succ]
      refine till_at 32 51 (.pointer (some ⟨A, 3, none⟩)) inv rfl rfl (by decide) (by kernel_rfl) (by kernel_rfl) (fun _ _ _ h => h) (hS0) (Or.inl ⟨by rfl, fun w' hS' => by go_simp⟩) (fun inv' => ?_)
      clear inv; have inv := inv'; clear inv'
      simp only [List.setIfInBounds_toArray, List.set_cons_zero, List.set_cons_succ]
      refine till_at 33 52 (.int .u32 (x3 : Nat)) inv rfl rfl (by decide) (by kernel_rfl) (by kernel_rfl) (fun _ _ _ h => h) (hS0) (Or.inl ⟨by rfl, fun w' hS' => by have q := g3.out w' hS'; go_simp⟩) (fun inv' => ?_)
      clear inv; have inv := inv'; clear inv'
      simp only [List.setIfInBounds_toArray, List.set_cons_zero, List.set_cons_succ]
      refine till_at 34 53 (.pointer (some ⟨A, 0, none⟩)) inv rfl rfl (by decide) (by kernel_rfl) (by kernel_rfl) (fun _ _ _ h => h) (hS0) (Or.inl ⟨by rfl, fun w' hS' => by go_simp⟩) (fun inv' => ?_)
      clear inv; have inv := inv'; clear inv'
      simp only [List.setIfInBounds_toArray, List.set_cons_zero, List.set_cons_succ]
      refine till_at 35 54 (.int .u32 (x0 : Nat)) inv rfl rfl (by decide) (by kernel_rfl) (by kernel_rfl) (fun _ _ _ h => h) (hS0) (Or.inl ⟨by rfl, fun w' hS' => by have q := g0.out w' hS'; go_simp⟩) (fun inv' => ?_)
      clear inv; have inv := inv'; clear inv'
      simp only [List.setIfInBounds_toArray, List.set_cons_zero, List.set_cons_succ]
      refine till_at 36 55 (.pointer (some ⟨A, 1, none⟩)) inv rfl rfl (by decide) (by kernel_rfl) (by kernel_rfl) (fun _ _ _ h => h) (hS0) (Or.inl ⟨by rfl, fun w' hS' => by go_simp⟩) (fun inv' => ?_)
      clear inv; have inv := inv'; clear inv'
      simp only [List.setIfInBounds_toArray, List.set_cons_zero, List.set_cons_succ]
      refine till_at 37 56 (.int .u32 (x1 : Nat)) inv rfl rfl (by decide) (by kernel_rfl) (by kernel_rfl) (fun _ _ _ h => h) (hS0) (Or.inl ⟨by rfl, fun w' hS' => by have q := g1.out w' hS'; go_simp⟩) (fun inv' => ?_)
      clear inv; have inv := inv'; clear inv'
      simp only [List.setIfInBounds_toArray, List.set_cons_zero, List.set_cons_succ]
      refine till_at 38 57 (.pointer (some ⟨A, 2, none⟩)) inv rfl rfl (by decide) (by kernel_rfl) (by kernel_rfl) (fun _ _ _ h => h) (hS0) (Or.inl ⟨by rfl, fun w' hS' => by go_simp⟩) (fun inv' => ?_)
      clear inv; have inv := inv'; clear inv'
      simp only [List.setIfInBounds_toArray, List.set_cons_zero, List.set_cons_succ]
      refine till_at 39 58 (.int .u32 (x2 : Nat)) inv rfl rfl (by decide) (by kernel_rfl) (by kernel_rfl) (fun _ _ _ h => h) (hS0) (Or.inl ⟨by rfl, fun w' hS' => by have q := g2.out w' hS'; go_simp⟩) (fun inv' => ?_)
      clear inv; have inv := inv'; clear inv'
      simp only [List.setIfInBounds_toArray, List.set_cons_zero, List.set_cons_succ]
      refine till_at 42 61 (.int .i64 (r : Nat)) inv rfl rfl (by decide) (by kernel_rfl) (by kernel_rfl) (fun _ _ _ h => h) (hS0) (Or.inl ⟨by rfl, fun w' hS' => by go_simp⟩) (fun inv' => ?_)
      clear inv; have inv := inv'; clear inv'
      simp only [List.setIfInBounds_toArray, List.set_cons_zero, List.set_cons_succ]
      refine till_head (i := 10) inv (by kernel_rfl) (by decide) rfl (fun K hK => ?_)
      go_simp
      refine (k0.out _ hS0).mono ?_
      rintro e1 u0 ⟨rfl, hu0⟩
      go_wp2_with fail
      refine hK.out _ _ hu0 (fun inv' => ?_)
      clear hK K inv; have inv := inv'; clear inv'
      try simp only [List.setIfInBounds_toArray, List.set_cons_zero, List.set_cons_succ]
      refine till_head (i := 20) inv (by kernel_rfl) (by decide) rfl (fun K hK => ?_)
      go_simp
      refine (k1.out _ hu0).mono ?_
      rintro e1 u1 ⟨rfl, hu1⟩
      go_wp2_with fail
      refine hK.out _ _ hu1 (fun inv' => ?_)
      clear hK K inv; have inv := inv'; clear inv'
      try simp only [List.setIfInBounds_toArray, List.set_cons_zero, List.set_cons_succ]
      refine till_head (i := 30) inv (by kernel_rfl) (by decide) rfl (fun K hK => ?_)
      go_simp
      refine (k2.out _ hu1).mono ?_
      rintro e1 u2 ⟨rfl, hu2⟩
      go_wp2_with fail
      refine hK.out _ _ hu2 (fun inv' => ?_)
      clear hK K inv; have inv := inv'; clear inv'
      try simp only [List.setIfInBounds_toArray, List.set_cons_zero, List.set_cons_succ]
      refine till_head (i := 40) inv (by kernel_rfl) (by decide) rfl (fun K hK => ?_)
      go_simp
      refine (k3.out _ hu2).mono ?_
      rintro e1 u3 ⟨rfl, hu3⟩
      go_wp2_with fail
      refine hK.out _ _ hu3 (fun inv' => ?_)
      clear hK K inv; have inv := inv'; clear inv'
      try simp only [List.setIfInBounds_toArray, List.set_cons_zero, List.set_cons_succ]
      refine till_at 41 60 (.agg #[.int .u32 (m0 : Nat), .int .u32 (m1 : Nat), .int .u32 (m2 : Nat), .int .u32 (m3 : Nat)]) inv rfl rfl (by decide) (by kernel_rfl) (by kernel_rfl) (fun _ _ _ h => h) (hu3) (yieldsIf_build (by rfl) 115 #[(0, .tmp 29), (1, .tmp 39), (2, .tmp 49), (3, .tmp 59)] rfl _ (by simp only [List.map_toArray, List.map_cons, List.map_nil]; kernel_rfl)) (fun inv' => ?_)
      clear inv; have inv := inv'; clear inv'
      simp only [List.setIfInBounds_toArray, List.set_cons_zero, List.set_cons_succ]
      refine till_tail (i := 43) (by kernel_rfl) (by decide) rfl (fun K hK => ?_)
      go_simp
      refine (ka.out _ hu3).mono ?_
      rintro e1 u4 ⟨rfl, hu4⟩
      go_wp2_with fail
      refine hK.out _ _ ?_
      clear hK K
      try simp only [List.setIfInBounds_toArray, List.set_cons_zero, List.set_cons_succ]
      refine till_tail (i := 44) (by kernel_rfl) (by decide) rfl (fun K hK => ?_)
      rw [if_pos (by rfl)]
      refine wp_store_mid 115 (.tmp 5) (.tmp 62) rfl A 0 #[.int .u32 (n0 : Nat), .int .u32 (n1 : Nat), .int .u32 (n2 : Nat), .int .u32 (n3 : Nat)] rfl rfl (there_below HW.out.2.2.2 hu4 (Nat.lt_succ_self A)) (size115) (by kernel_rfl) ?_
      refine hK.out _ _ ?_
      clear hK K
      try simp only [List.setIfInBounds_toArray, List.set_cons_zero, List.set_cons_succ]
      refine till_done (by kernel_rfl) ?_ _
      refine NoPanic.normal ?_
      have HN2 : Hid (Below A w2 (u4.setCells A 0 [.int .u32 (n0 : Nat), .int .u32 (n1 : Nat), .int .u32 (n2 : Nat), .int .u32 (n3 : Nat)]) ∧ A < (u4.setCells A 0 [.int .u32 (n0 : Nat), .int .u32 (n1 : Nat), .int .u32 (n2 : Nat), .int .u32 (n3 : Nat)]).heap.size ∧ (u4.setCells A 0 [.int .u32 (n0 : Nat), .int .u32 (n1 : Nat), .int .u32 (n2 : Nat), .int .u32 (n3 : Nat)]).rangeAt A 0 [.int .u32 (n0 : Nat), .int .u32 (n1 : Nat), .int .u32 (n2 : Nat), .int .u32 (n3 : Nat)] ∧ (u4.setCells A 0 [.int .u32 (n0 : Nat), .int .u32 (n1 : Nat), .int .u32 (n2 : Nat), .int .u32 (n3 : Nat)]).there A 0 4) := by
        obtain ⟨p1, p2, p3, p4⟩ := HW.out
        have ht4 := there_below p4 hu4 (Nat.lt_succ_self A)
        refine ⟨below_setCells A (Nat.le_refl _) _ _ _ (p1.trans (hu4.mono (Nat.le_succ A))), ?_, World.rangeAt_setCells_same _ _ _ _ ht4, World.there_setCells ht4 _ _ _⟩
        rw [size_setCells]
        exact Nat.lt_of_lt_of_le p2 hu4.size
      generalize u4.setCells A 0 [.int .u32 (n0 : Nat), .int .u32 (n1 : Nat), .int .u32 (n2 : Nat), .int .u32 (n3 : Nat)] = w5 at HN2 ⊢
      clear hu0 hu1 hu2 hu3 hu4 hS0 k0 k1 k2 k3 ka g0 g1 g2 g3
      go_wp2
      refine ⟨⟨r + 1, n0, n1, n2, n3, by omega, by omega, rfl, ?_, HNok.out, HN2.out⟩, ?_⟩
      · show _ = _
        obtain ⟨q, rfl⟩ : ∃ q, r = q + 1 := ⟨r - 1, by omega⟩
        rw [HN.out, HM.out, HX.out]
        exact rfl
      · simp only [intOf]; omega
    · obtain rfl : r = nr := by omega
      clear hlt
      obtain ⟨⟨m0, m1, m2, m3⟩, HM⟩ : ∃ m, Hid (m = lastS ⟨x0, x1, x2, x3⟩) := ⟨_, rfl⟩
      obtain ⟨⟨n0, n1, n2, n3⟩, HN⟩ : ∃ m, Hid (m = addK K r ⟨m0, m1, m2, m3⟩) := ⟨_, rfl⟩
      have HMok : Hid (W4.ok ⟨m0, m1, m2, m3⟩) := by show W4.ok _; rw [HM.out]; exact lastS_ok _
      have hgA1 : g < A + 1 := Nat.lt_succ_of_lt HgA.out
      have k0 : Hid (∀ u, Below (A + 1) wr u → Calls Tryd.prog 67 #[.pointer (some ⟨g, o, none⟩), .int .u32 (x0 : Nat), .int .u32 (x1 : Nat), .int .u32 (x2 : Nat), .int .u32 (x3 : Nat)] u fun e u' => e = .returned (.int .u32 (m0 : Nat)) ∧ Below (A + 1) wr u') := last_c HCr.out hgA1 x0 x1 x2 x3 m0 (congrArg W4.a HM.out)
      have k1 : Hid (∀ u, Below (A + 1) wr u → Calls Tryd.prog 67 #[.pointer (some ⟨g, o, none⟩), .int .u32 (x1 : Nat), .int .u32 (x2 : Nat), .int .u32 (x3 : Nat), .int .u32 (x0 : Nat)] u fun e u' => e = .returned (.int .u32 (m1 : Nat)) ∧ Below (A + 1) wr u') := last_c HCr.out hgA1 x1 x2 x3 x0 m1 (congrArg W4.b HM.out)
      have k2 : Hid (∀ u, Below (A + 1) wr u → Calls Tryd.prog 67 #[.pointer (some ⟨g, o, none⟩), .int .u32 (x2 : Nat), .int .u32 (x3 : Nat), .int .u32 (x0 : Nat), .int .u32 (x1 : Nat)] u fun e u' => e = .returned (.int .u32 (m2 : Nat)) ∧ Below (A + 1) wr u') := last_c HCr.out hgA1 x2 x3 x0 x1 m2 (congrArg W4.c HM.out)
      have k3 : Hid (∀ u, Below (A + 1) wr u → Calls Tryd.prog 67 #[.pointer (some ⟨g, o, none⟩), .int .u32 (x3 : Nat), .int .u32 (x0 : Nat), .int .u32 (x1 : Nat), .int .u32 (x2 : Nat)] u fun e u' => e = .returned (.int .u32 (m3 : Nat)) ∧ Below (A + 1) wr u') := last_c HCr.out hgA1 x3 x0 x1 x2 m3 (congrArg W4.d HM.out)
      have ka : Hid (∀ u, Below (A + 1) wr u → Calls Tryd.prog 63 #[.pointer (some ⟨g, o, none⟩), .agg #[.int .u32 (m0 : Nat), .int .u32 (m1 : Nat), .int .u32 (m2 : Nat), .int .u32 (m3 : Nat)], .int .i64 (r : Nat)] u fun e u' => e = .returned (.agg #[.int .u32 (n0 : Nat), .int .u32 (n1 : Nat), .int .u32 (n2 : Nat), .int .u32 (n3 : Nat)]) ∧ Below (A + 1) wr u') := add_c HCr.out hgA1 HW.out.2.1 r (Nat.le_refl r) ⟨m0, m1, m2, m3⟩ ⟨n0, n1, n2, n3⟩ HMok.out HN.out
      have kt : Hid (∀ u, Calls Tryd.prog 66 #[.agg #[.int .u32 (n0 : Nat), .int .u32 (n1 : Nat), .int .u32 (n2 : Nat), .int .u32 (n3 : Nat)]] u fun e u' => e = .returned (.agg #[.int .u8 (bt0 n0 : Nat), .int .u8 (bt1 n0 : Nat), .int .u8 (bt2 n0 : Nat), .int .u8 (bt3 n0 : Nat), .int .u8 (bt0 n1 : Nat), .int .u8 (bt1 n1 : Nat), .int .u8 (bt2 n1 : Nat), .int .u8 (bt3 n1 : Nat), .int .u8 (bt0 n2 : Nat), .int .u8 (bt1 n2 : Nat), .int .u8 (bt2 n2 : Nat), .int .u8 (bt3 n2 : Nat), .int .u8 (bt0 n3 : Nat), .int .u8 (bt1 n3 : Nat), .int .u8 (bt2 n3 : Nat), .int .u8 (bt3 n3 : Nat)]) ∧ Below u.heap.size u u') := to_c ⟨n0, n1, n2, n3⟩
      have gr : Hid (∀ u, Below (A + 1) wr u → u.cell? ⟨g, o, none⟩ = some (.int .i64 (r : Nat))) := fun u hu => (hu.cell hgA1).trans HCr.out.rounds
      have g0 : Hid (∀ u, Below (A + 1) wr u → u.cell? ⟨A, 0, none⟩ = some (.int .u32 (x0 : Nat))) := fun u hu => (hu.cell (Nat.lt_succ_self A)).trans (range4 HW.out.2.2.1).1
      have g1 : Hid (∀ u, Below (A + 1) wr u → u.cell? ⟨A, 1, none⟩ = some (.int .u32 (x1 : Nat))) := fun u hu => (hu.cell (Nat.lt_succ_self A)).trans (range4 HW.out.2.2.1).2.1
      have g2 : Hid (∀ u, Below (A + 1) wr u → u.cell? ⟨A, 2, none⟩ = some (.int .u32 (x2 : Nat))) := fun u hu => (hu.cell (Nat.lt_succ_self A)).trans (range4 HW.out.2.2.1).2.2.1
      have g3 : Hid (∀ u, Below (A + 1) wr u → u.cell? ⟨A, 3, none⟩ = some (.int .u32 (x3 : Nat))) := fun u hu => (hu.cell (Nat.lt_succ_self A)).trans (range4 HW.out.2.2.1).2.2.2
      clear hgA1
      go_wp2
      have hS0 : Below (A + 1) wr wr.drew := (Below.refl _ _).drew
      refine wp_region_noPanic ?_
      refine wp_region_till (fun u => Below (A + 1) wr u) 46 (by kernel_rfl) (by decide) (by kernel_rfl) (by kernel_rfl) (by kernel_rfl) (fun inv => ?_)
      refine till_at 0 63 (.pointer (some ⟨g, o, none⟩)) inv rfl rfl (by decide) (by kernel_rfl) (by kernel_rfl) (fun _ _ _ h => h) (hS0) (Or.inl ⟨by rfl, fun w' hS' => by go_simp⟩) (fun inv' => ?_)
      clear inv; have inv := inv'; clear inv'
      simp only [List.setIfInBounds_toArray, List.set_cons_zero, List.set_cons_succ]
      refine till_at 1 64 (.pointer (some ⟨g, o, none⟩)) inv rfl rfl (by decide) (by kernel_rfl) (by kernel_rfl) (fun _ _ _ h => h) (hS0) (Or.inl ⟨by rfl, fun w' hS' => by go_simp⟩) (fun inv' => ?_)
      clear inv; have inv := inv'; clear inv'
      simp only [List.setIfInBounds_toArray, List.set_cons_zero, List.set_cons_succ]
      refine till_at 2 65 (.pointer (some ⟨A, 0, none⟩)) inv rfl rfl (by decide) (by kernel_rfl) (by kernel_rfl) (fun _ _ _ h => h) (hS0) (Or.inl ⟨by rfl, fun w' hS' => by go_simp⟩) (fun inv' => ?_)
      clear inv; have inv := inv'; clear inv'
      simp only [List.setIfInBounds_toArray, List.set_cons_zero, List.set_cons_succ]
      refine till_at 3 66 (.int .u32 (x0 : Nat)) inv rfl rfl (by decide) (by kernel_rfl) (by kernel_rfl) (fun _ _ _ h => h) (hS0) (Or.inl ⟨by rfl, fun w' hS' => by have q := g0.out w' hS'; go_simp⟩) (fun inv' => ?_)
      clear inv; have inv := inv'; clear inv'
      simp only [List.setIfInBounds_toArray, List.set_cons_zero, List.set_cons_succ]
      refine till_at 4 67 (.pointer (some ⟨A, 1, none⟩)) inv rfl rfl (by decide) (by kernel_rfl) (by kernel_rfl) (fun _ _ _ h => h) (hS0) (Or.inl ⟨by rfl, fun w' hS' => by go_simp⟩) (fun inv' => ?_)
      clear inv; have inv := inv'; clear inv'
      simp only [List.setIfInBounds_toArray, List.set_cons_zero, List.set_cons_succ]
      refine till_at 5 68 (.int .u32 (x1 : Nat)) inv rfl rfl (by decide) (by kernel_rfl) (by kernel_rfl) (fun _ _ _ h => h) (hS0) (Or.inl ⟨by rfl, fun w' hS' => by have q := g1.out w' hS'; go_simp⟩) (fun inv' => ?_)
      clear inv; have inv := inv'; clear inv'
      simp only [List.setIfInBounds_toArray, List.set_cons_zero, List.set_cons_succ]
      refine till_at 6 69 (.pointer (some ⟨A, 2, none⟩)) inv rfl rfl (by decide) (by kernel_rfl) (by kernel_rfl) (fun _ _ _ h => h) (hS0) (Or.inl ⟨by rfl, fun w' hS' => by go_simp⟩) (fun inv' => ?_)
      clear inv; have inv := inv'; clear inv'
      simp only [List.setIfInBounds_toArray, List.set_cons_zero, List.set_cons_succ]
      refine till_at 7 70 (.int .u32 (x2 : Nat)) inv rfl rfl (by decide) (by kernel_rfl) (by kernel_rfl) (fun _ _ _ h => h) (hS0) (Or.inl ⟨by rfl, fun w' hS' => by have q := g2.out w' hS'; go_simp⟩) (fun inv' => ?_)
      clear inv; have inv := inv'; clear inv'
      simp only [List.setIfInBounds_toArray, List.set_cons_zero, List.set_cons_succ]
      refine till_at 8 71 (.pointer (some ⟨A, 3, none⟩)) inv rfl rfl (by decide) (by kernel_rfl) (by kernel_rfl) (fun _ _ _ h => h) (hS0) (Or.inl ⟨by rfl, fun w' hS' => by go_simp⟩) (fun inv' => ?_)
      clear inv; have inv := inv'; clear inv'
      simp only [List.setIfInBounds_toArray, List.set_cons_zero, List.set_cons_succ]
      refine till_at 9 72 (.int .u32 (x3 : Nat)) inv rfl rfl (by decide) (by kernel_rfl) (by kernel_rfl) (fun _ _ _ h => h) (hS0) (Or.inl ⟨by rfl, fun w' hS' => by have q := g3.out w' hS'; go_simp⟩) (fun inv' => ?_)
      clear inv; have inv := inv'; clear inv'
      simp only [List.setIfInBounds_toArray, List.set_cons_zero, List.set_cons_succ]
      refine till_at 11 74 (.pointer (some ⟨g, o, none⟩)) inv rfl rfl (by decide) (by kernel_rfl) (by kernel_rfl) (fun _ _ _ h => h) (hS0) (Or.inl ⟨by rfl, fun w' hS' => by go_simp⟩) (fun inv' => ?_)
      clear inv; have inv := inv'; clear inv'
      simp only [List.setIfInBounds_toArray, List.set_cons_zero, List.set_cons_succ]
      refine till_at 12 75 (.pointer (some ⟨A, 1, none⟩)) inv rfl rfl (by decide) (by kernel_rfl) (by kernel_rfl) (fun _ _ _ h => h) (hS0) (Or.inl ⟨by rfl, fun w' hS' => by go_simp⟩) (fun inv' => ?_)
      clear inv; have inv := inv'; clear inv'
      simp only [List.setIfInBounds_toArray, List.set_cons_zero, List.set_cons_succ]
      refine till_at 13 76 (.int .u32 (x1 : Nat)) inv rfl rfl (by decide) (by kernel_rfl) (by kernel_rfl) (fun _ _ _ h => h) (hS0) (Or.inl ⟨by rfl, fun w' hS' => by have q := g1.out w' hS'; go_simp⟩) (fun inv' => ?_)
      clear inv; have inv := inv'; clear inv'
      simp only [List.setIfInBounds_toArray, List.set_cons_zero, List.set_cons_succ]
      refine till_at 14 77 (.pointer (some ⟨A, 2, none⟩)) inv rfl rfl (by decide) (by kernel_rfl) (by kernel_rfl) (fun _ _ _ h => h) (hS0) (Or.inl ⟨by rfl, fun w' hS' => by go_simp⟩) (fun inv' => ?_)
      clear inv; have inv := inv'; clear inv'
      simp only [List.setIfInBounds_toArray, List.set_cons_zero, List.set_cons_succ]
      refine till_at 15 78 (.int .u32 (x2 : Nat)) inv rfl rfl (by decide) (by kernel_rfl) (by kernel_rfl) (fun _ _ _ h => h) (hS0) (Or.inl ⟨by rfl, fun w' hS' => by have q := g2.out w' hS'; go_simp⟩) (fun inv' => ?_)
      clear inv; have inv := inv'; clear inv'
      simp only [List.setIfInBounds_toArray, List.set_cons_zero, List.set_cons_succ]
      refine till_at 16 79 (.pointer (some ⟨A, 3, none⟩)) inv rfl rfl (by decide) (by kernel_rfl) (by kernel_rfl) (fun _ _ _ h => h) (hS0) (Or.inl ⟨by rfl, fun w' hS' => by go_simp⟩) (fun inv' => ?_)
      clear inv; have inv := inv'; clear inv'
      simp only [List.setIfInBounds_toArray, List.set_cons_zero, List.set_cons_succ]
      refine till_at 17 80 (.int .u32 (x3 : Nat)) inv rfl rfl (by decide) (by kernel_rfl) (by kernel_rfl) (fun _ _ _ h => h) (hS0) (Or.inl ⟨by rfl, fun w' hS' => by have q := g3.out w' hS'; go_simp⟩) (fun inv' => ?_)
      clear inv; have inv := inv'; clear inv'
      simp only [List.setIfInBounds_toArray, List.set_cons_zero, List.set_cons_succ]
      refine till_at 18 81 (.pointer (some ⟨A, 0, none⟩)) inv rfl rfl (by decide) (by kernel_rfl) (by kernel_rfl) (fun _ _ _ h => h) (hS0) (Or.inl ⟨by rfl, fun w' hS' => by go_simp⟩) (fun inv' => ?_)
      clear inv; have inv := inv'; clear inv'
      simp only [List.setIfInBounds_toArray, List.set_cons_zero, List.set_cons_succ]
      refine till_at 19 82 (.int .u32 (x0 : Nat)) inv rfl rfl (by decide) (by kernel_rfl) (by kernel_rfl) (fun _ _ _ h => h) (hS0) (Or.inl ⟨by rfl, fun w' hS' => by have q := g0.out w' hS'; go_simp⟩) (fun inv' => ?_)
      clear inv; have inv := inv'; clear inv'
      simp only [List.setIfInBounds_toArray, List.set_cons_zero, List.set_cons_succ]
      refine till_at 21 84 (.pointer (some ⟨g, o, none⟩)) inv rfl rfl (by decide) (by kernel_rfl) (by kernel_rfl) (fun _ _ _ h => h) (hS0) (Or.inl ⟨by rfl, fun w' hS' => by go_simp⟩) (fun inv' => ?_)
      clear inv; have inv := inv'; clear inv'
      simp only [List.setIfInBounds_toArray, List.set_cons_zero, List.set_cons_succ]
      refine till_at 22 85 (.pointer (some ⟨A, 2, none⟩)) inv rfl rfl (by decide) (by kernel_rfl) (by kernel_rfl) (fun _ _ _ h => h) (hS0) (Or.inl ⟨by rfl, fun w' hS' => by go_simp⟩) (fun inv' => ?_)
      clear inv; have inv := inv'; clear inv'
      simp only [List.setIfInBounds_toArray, List.set_cons_zero, List.set_cons_succ]
      refine till_at 23 86 (.int .u32 (x2 : Nat)) inv rfl rfl (by decide) (by kernel_rfl) (by kernel_rfl) (fun _ _ _ h => h) (hS0) (Or.inl ⟨by rfl, fun w' hS' => by have q := g2.out w' hS'; go_simp⟩) (fun inv' => ?_)
      clear inv; have inv := inv'; clear inv'
      simp only [List.setIfInBounds_toArray, List.set_cons_zero, List.set_cons_succ]
      refine till_at 24 87 (.pointer (some ⟨A, 3, none⟩)) inv rfl rfl (by decide) (by kernel_rfl) (by kernel_rfl) (fun _ _ _ h => h) (hS0) (Or.inl ⟨by rfl, fun w' hS' => by go_simp⟩) (fun inv' => ?_)
      clear inv; have inv := inv'; clear inv'
      simp only [List.setIfInBounds_toArray, List.set_cons_zero, List.set_cons_succ]
      refine till_at 25 88 (.int .u32 (x3 : Nat)) inv rfl rfl (by decide) (by kernel_rfl) (by kernel_rfl) (fun _ _ _ h => h) (hS0) (Or.inl ⟨by rfl, fun w' hS' => by have q := g3.out w' hS'; go_simp⟩) (fun inv' => ?_)
      clear inv; have inv := inv'; clear inv'
      simp only [List.setIfInBounds_toArray, List.set_cons_zero, List.set_cons_succ]
      refine till_at 26 89 (.pointer (some ⟨A, 0, none⟩)) inv rfl rfl (by decide) (by kernel_rfl) (by kernel_rfl) (fun _ _ _ h => h) (hS0) (Or.inl ⟨by rfl, fun w' hS' => by go_simp⟩) (fun inv' => ?_)
      clear inv; have inv := inv'; clear inv'
      simp only [List.setIfInBounds_toArray, List.set_cons_zero, List.set_cons_succ]
      refine till_at 27 90 (.int .u32 (x0 : Nat)) inv rfl rfl (by decide) (by kernel_rfl) (by kernel_rfl) (fun _ _ _ h => h) (hS0) (Or.inl ⟨by rfl, fun w' hS' => by have q := g0.out w' hS'; go_simp⟩) (fun inv' => ?_)
      clear inv; have inv := inv'; clear inv'
      simp only [List.setIfInBounds_toArray, List.set_cons_zero, List.set_cons_succ]
      refine till_at 28 91 (.pointer (some ⟨A, 1, none⟩)) inv rfl rfl (by decide) (by kernel_rfl) (by kernel_rfl) (fun _ _ _ h => h) (hS0) (Or.inl ⟨by rfl, fun w' hS' => by go_simp⟩) (fun inv' => ?_)
      clear inv; have inv := inv'; clear inv'
      simp only [List.setIfInBounds_toArray, List.set_cons_zero, List.set_cons_succ]
      refine till_at 29 92 (.int .u32 (x1 : Nat)) inv rfl rfl (by decide) (by kernel_rfl) (by kernel_rfl) (fun _ _ _ h => h) (hS0) (Or.inl ⟨by rfl, fun w' hS' => by have q := g1.out w' hS'; go_simp⟩) (fun inv' => ?_)
      clear inv; have inv := inv'; clear inv'
      simp only [List.setIfInBounds_toArray, List.set_cons_zero, List.set_cons_succ]
      refine till_at 31 94 (.pointer (some ⟨g, o, none⟩)) inv rfl rfl (by decide) (by kernel_rfl) (by kernel_rfl) (fun _ _ _ h => h) (hS0) (Or.inl ⟨by rfl, fun w' hS' => by go_simp⟩) (fun inv' => ?_)
      clear inv; have inv := inv'; clear inv'
      simp only [List.setIfInBounds_toArray, List.set_cons_zero, List.set_cons_succ]
      refine till_at 32 95 (.pointer (some ⟨A, 3, none⟩)) inv rfl rfl (by decide) (by kernel_rfl) (by kernel_rfl) (fun _ _ _ h => h) (hS0) (Or.inl ⟨by rfl, fun w' hS' => by go_simp⟩) (fun inv' => ?_)
      clear inv; have inv := inv'; clear inv'
      simp only [List.setIfInBounds_toArray, List.set_cons_zero, List.set_cons_succ]
      refine till_at 33 96 (.int .u32 (x3 : Nat)) inv rfl rfl (by decide) (by kernel_rfl) (by kernel_rfl) (fun _ _ _ h => h) (hS0) (Or.inl ⟨by rfl, fun w' hS' => by have q := g3.out w' hS'; go_simp⟩) (fun inv' => ?_)
      clear inv; have inv := inv'; clear inv'
      simp only [List.setIfInBounds_toArray, List.set_cons_zero, List.set_cons_succ]
      refine till_at 34 97 (.pointer (some ⟨A, 0, none⟩)) inv rfl rfl (by decide) (by kernel_rfl) (by kernel_rfl) (fun _ _ _ h => h) (hS0) (Or.inl ⟨by rfl, fun w' hS' => by go_simp⟩) (fun inv' => ?_)
      clear inv; have inv := inv'; clear inv'
      simp only [List.setIfInBounds_toArray, List.set_cons_zero, List.set_cons_succ]
      refine till_at 35 98 (.int .u32 (x0 : Nat)) inv rfl rfl (by decide) (by kernel_rfl) (by kernel_rfl) (fun _ _ _ h => h) (hS0) (Or.inl ⟨by rfl, fun w' hS' => by have q := g0.out w' hS'; go_simp⟩) (fun inv' => ?_)
      clear inv; have inv := inv'; clear inv'
      simp only [List.setIfInBounds_toArray, List.set_cons_zero, List.set_cons_succ]
      refine till_at 36 99 (.pointer (some ⟨A, 1, none⟩)) inv rfl rfl (by decide) (by kernel_rfl) (by kernel_rfl) (fun _ _ _ h => h) (hS0) (Or.inl ⟨by rfl, fun w' hS' => by go_simp⟩) (fun inv' => ?_)
      clear inv; have inv := inv'; clear inv'
      simp only [List.setIfInBounds_toArray, List.set_cons_zero, List.set_cons_succ]
      refine till_at 37 100 (.int .u32 (x1 : Nat)) inv rfl rfl (by decide) (by kernel_rfl) (by kernel_rfl) (fun _ _ _ h => h) (hS0) (Or.inl ⟨by rfl, fun w' hS' => by have q := g1.out w' hS'; go_simp⟩) (fun inv' => ?_)
      clear inv; have inv := inv'; clear inv'
      simp only [List.setIfInBounds_toArray, List.set_cons_zero, List.set_cons_succ]
      refine till_at 38 101 (.pointer (some ⟨A, 2, none⟩)) inv rfl rfl (by decide) (by kernel_rfl) (by kernel_rfl) (fun _ _ _ h => h) (hS0) (Or.inl ⟨by rfl, fun w' hS' => by go_simp⟩) (fun inv' => ?_)
      clear inv; have inv := inv'; clear inv'
      simp only [List.setIfInBounds_toArray, List.set_cons_zero, List.set_cons_succ]
      refine till_at 39 102 (.int .u32 (x2 : Nat)) inv rfl rfl (by decide) (by kernel_rfl) (by kernel_rfl) (fun _ _ _ h => h) (hS0) (Or.inl ⟨by rfl, fun w' hS' => by have q := g2.out w' hS'; go_simp⟩) (fun inv' => ?_)
      clear inv; have inv := inv'; clear inv'
      simp only [List.setIfInBounds_toArray, List.set_cons_zero, List.set_cons_succ]
      refine till_at 42 105 (.pointer (some ⟨g, o, none⟩)) inv rfl rfl (by decide) (by kernel_rfl) (by kernel_rfl) (fun _ _ _ h => h) (hS0) (Or.inl ⟨by rfl, fun w' hS' => by go_simp⟩) (fun inv' => ?_)
      clear inv; have inv := inv'; clear inv'
      simp only [List.setIfInBounds_toArray, List.set_cons_zero, List.set_cons_succ]
      refine till_at 43 106 (.pointer (some ⟨g, o, none⟩)) inv rfl rfl (by decide) (by kernel_rfl) (by kernel_rfl) (fun _ _ _ h => h) (hS0) (Or.inl ⟨by rfl, fun w' hS' => by go_simp⟩) (fun inv' => ?_)
      clear inv; have inv := inv'; clear inv'
      simp only [List.setIfInBounds_toArray, List.set_cons_zero, List.set_cons_succ]
      refine till_at 44 107 (.pointer (some ⟨g, o, none⟩)) inv rfl rfl (by decide) (by kernel_rfl) (by kernel_rfl) (fun _ _ _ h => h) (hS0) (Or.inl ⟨by rfl, fun w' hS' => by go_simp⟩) (fun inv' => ?_)
      clear inv; have inv := inv'; clear inv'
      simp only [List.setIfInBounds_toArray, List.set_cons_zero, List.set_cons_succ]
      refine till_at 45 108 (.int .i64 (r : Nat)) inv rfl rfl (by decide) (by kernel_rfl) (by kernel_rfl) (fun _ _ _ h => h) (hS0) (Or.inl ⟨by rfl, fun w' hS' => by have q := gr.out w' hS'; go_simp⟩) (fun inv' => ?_)
      clear inv; have inv := inv'; clear inv'
      simp only [List.setIfInBounds_toArray, List.set_cons_zero, List.set_cons_succ]
      refine till_head (i := 10) inv (by kernel_rfl) (by decide) rfl (fun K hK => ?_)
      go_simp
      refine (k0.out _ hS0).mono ?_
      rintro e1 u0 ⟨rfl, hu0⟩
      go_wp2_with fail
      refine hK.out _ _ hu0 (fun inv' => ?_)
      clear hK K inv; have inv := inv'; clear inv'
      try simp only [List.setIfInBounds_toArray, List.set_cons_zero, List.set_cons_succ]
      refine till_head (i := 20) inv (by kernel_rfl) (by decide) rfl (fun K hK => ?_)
      go_simp
      refine (k1.out _ hu0).mono ?_
      rintro e1 u1 ⟨rfl, hu1⟩
      go_wp2_with fail
      refine hK.out _ _ hu1 (fun inv' => ?_)
      clear hK K inv; have inv := inv'; clear inv'
      try simp only [List.setIfInBounds_toArray, List.set_cons_zero, List.set_cons_succ]
      refine till_head (i := 30) inv (by kernel_rfl) (by decide) rfl (fun K hK => ?_)
      go_simp
      refine (k2.out _ hu1).mono ?_
      rintro e1 u2 ⟨rfl, hu2⟩
      go_wp2_with fail
      refine hK.out _ _ hu2 (fun inv' => ?_)
      clear hK K inv; have inv := inv'; clear inv'
      try simp only [List.setIfInBounds_toArray, List.set_cons_zero, List.set_cons_succ]
      refine till_head (i := 40) inv (by kernel_rfl) (by decide) rfl (fun K hK => ?_)
      go_simp
      refine (k3.out _ hu2).mono ?_
      rintro e1 u3 ⟨rfl, hu3⟩
      go_wp2_with fail
      refine hK.out _ _ hu3 (fun inv' => ?_)
      clear hK K inv; have inv := inv'; clear inv'
      try simp only [List.setIfInBounds_toArray, List.set_cons_zero, List.set_cons_succ]
      refine till_at 41 104 (.agg #[.int .u32 (m0 : Nat), .int .u32 (m1 : Nat), .int .u32 (m2 : Nat), .int .u32 (m3 : Nat)]) inv rfl rfl (by decide) (by kernel_rfl) (by kernel_rfl) (fun _ _ _ h => h) (hu3) (yieldsIf_build (by rfl) 115 #[(0, .tmp 73), (1, .tmp 83), (2, .tmp 93), (3, .tmp 103)] rfl _ (by simp only [List.map_toArray, List.map_cons, List.map_nil]; kernel_rfl)) (fun inv' => ?_)
      clear inv; have inv := inv'; clear inv'
      simp only [List.setIfInBounds_toArray, List.set_cons_zero, List.set_cons_succ]
      refine till_tail (i := 46) (by kernel_rfl) (by decide) rfl (fun K hK => ?_)
      go_simp
      refine (ka.out _ hu3).mono ?_
      rintro e1 u4 ⟨rfl, hu4⟩
      go_wp2_with fail
      refine hK.out _ _ ?_
      clear hK K
      try simp only [List.setIfInBounds_toArray, List.set_cons_zero, List.set_cons_succ]
      refine till_tail (i := 47) (by kernel_rfl) (by decide) rfl (fun K hK => ?_)
      go_simp
      refine (kt.out _).mono ?_
      rintro e1 u5 ⟨rfl, hu5⟩
      go_wp2_with fail
      refine hK.out _ _ ?_
      clear hK K
      try simp only [List.setIfInBounds_toArray, List.set_cons_zero, List.set_cons_succ]
      have HT5 : Hid (u5.there (w.heap.size + 1) 0 16 ∧ Below w.heap.size w u5) := by
        obtain ⟨p1, p2, p3, p4⟩ := HW.out
        obtain ⟨q1, q2, q3⟩ := H2.out
        have hA := HAw.out
        have hs4 := hu4.size
        have e1 := there_below q3 p1 (by omega)
        have e2 := there_below e1 hu4 (by omega)
        exact ⟨there_below e2 hu5 (by omega), ((q1.trans (p1.mono (by omega))).trans (hu4.mono (by omega))).trans (hu5.mono (by omega))⟩
      refine till_tail (i := 48) (by kernel_rfl) (by decide) rfl (fun K hK => ?_)
      rw [if_pos (by rfl)]
      refine wp_store_mid 42 (.tmp 4) (.tmp 110) rfl (w.heap.size + 1) 0 #[.int .u8 (bt0 n0 : Nat), .int .u8 (bt1 n0 : Nat), .int .u8 (bt2 n0 : Nat), .int .u8 (bt3 n0 : Nat), .int .u8 (bt0 n1 : Nat), .int .u8 (bt1 n1 : Nat), .int .u8 (bt2 n1 : Nat), .int .u8 (bt3 n1 : Nat), .int .u8 (bt0 n2 : Nat), .int .u8 (bt1 n2 : Nat), .int .u8 (bt2 n2 : Nat), .int .u8 (bt3 n2 : Nat), .int .u8 (bt0 n3 : Nat), .int .u8 (bt1 n3 : Nat), .int .u8 (bt2 n3 : Nat), .int .u8 (bt3 n3 : Nat)] rfl rfl (HT5.out.1) (size42) (by kernel_rfl) ?_
      refine hK.out _ _ ?_
      clear hK K
      try simp only [List.setIfInBounds_toArray, List.set_cons_zero, List.set_cons_succ]
      refine till_done (by kernel_rfl) ?_ _
      refine NoPanic.normal ?_
      have HR : Hid ((u5.setCells (w.heap.size + 1) 0 [.int .u8 (bt0 n0 : Nat), .int .u8 (bt1 n0 : Nat), .int .u8 (bt2 n0 : Nat), .int .u8 (bt3 n0 : Nat), .int .u8 (bt0 n1 : Nat), .int .u8 (bt1 n1 : Nat), .int .u8 (bt2 n1 : Nat), .int .u8 (bt3 n1 : Nat), .int .u8 (bt0 n2 : Nat), .int .u8 (bt1 n2 : Nat), .int .u8 (bt2 n2 : Nat), .int .u8 (bt3 n2 : Nat), .int .u8 (bt0 n3 : Nat), .int .u8 (bt1 n3 : Nat), .int .u8 (bt2 n3 : Nat), .int .u8 (bt3 n3 : Nat)]).rangeAt (w.heap.size + 1) 0 [.int .u8 (bt0 n0 : Nat), .int .u8 (bt1 n0 : Nat), .int .u8 (bt2 n0 : Nat), .int .u8 (bt3 n0 : Nat), .int .u8 (bt0 n1 : Nat), .int .u8 (bt1 n1 : Nat), .int .u8 (bt2 n1 : Nat), .int .u8 (bt3 n1 : Nat), .int .u8 (bt0 n2 : Nat), .int .u8 (bt1 n2 : Nat), .int .u8 (bt2 n2 : Nat), .int .u8 (bt3 n2 : Nat), .int .u8 (bt0 n3 : Nat), .int .u8 (bt1 n3 : Nat), .int .u8 (bt2 n3 : Nat), .int .u8 (bt3 n3 : Nat)] ∧ Below w.heap.size w (u5.setCells (w.heap.size + 1) 0 [.int .u8 (bt0 n0 : Nat), .int .u8 (bt1 n0 : Nat), .int .u8 (bt2 n0 : Nat), .int .u8 (bt3 n0 : Nat), .int .u8 (bt0 n1 : Nat), .int .u8 (bt1 n1 : Nat), .int .u8 (bt2 n1 : Nat), .int .u8 (bt3 n1 : Nat), .int .u8 (bt0 n2 : Nat), .int .u8 (bt1 n2 : Nat), .int .u8 (bt2 n2 : Nat), .int .u8 (bt3 n2 : Nat), .int .u8 (bt0 n3 : Nat), .int .u8 (bt1 n3 : Nat), .int .u8 (bt2 n3 : Nat), .int .u8 (bt3 n3 : Nat)])) :=
        ⟨World.rangeAt_setCells_same _ _ _ _ HT5.out.1, below_setCells _ (Nat.le_succ _) _ _ _ HT5.out.2⟩
      generalize u5.setCells (w.heap.size + 1) 0 [.int .u8 (bt0 n0 : Nat), .int .u8 (bt1 n0 : Nat), .int .u8 (bt2 n0 : Nat), .int .u8 (bt3 n0 : Nat), .int .u8 (bt0 n1 : Nat), .int .u8 (bt1 n1 : Nat), .int .u8 (bt2 n1 : Nat), .int .u8 (bt3 n1 : Nat), .int .u8 (bt0 n2 : Nat), .int .u8 (bt1 n2 : Nat), .int .u8 (bt2 n2 : Nat), .int .u8 (bt3 n2 : Nat), .int .u8 (bt0 n3 : Nat), .int .u8 (bt1 n3 : Nat), .int .u8 (bt2 n3 : Nat), .int .u8 (bt3 n3 : Nat)] = w6 at HR ⊢
      have HE : Hid ((⟨n0, n1, n2, n3⟩ : W4) = encW r K s) := by
        show _ = _
        rw [HN.out, HM.out, HX.out, HT.out]
        exact rfl
      clear hu0 hu1 hu2 hu3 hu4 hu5 hS0 k0 k1 k2 k3 ka kt gr g0 g1 g2 g3
      go_wp2
      refine ret_array [.int .u8 (bt0 n0 : Nat), .int .u8 (bt1 n0 : Nat), .int .u8 (bt2 n0 : Nat), .int .u8 (bt3 n0 : Nat), .int .u8 (bt0 n1 : Nat), .int .u8 (bt1 n1 : Nat), .int .u8 (bt2 n1 : Nat), .int .u8 (bt3 n1 : Nat), .int .u8 (bt0 n2 : Nat), .int .u8 (bt1 n2 : Nat), .int .u8 (bt2 n2 : Nat), .int .u8 (bt3 n2 : Nat), .int .u8 (bt0 n3 : Nat), .int .u8 (bt1 n3 : Nat), .int .u8 (bt2 n3 : Nat), .int .u8 (bt3 n3 : Nat)] Tryd.results43 rfl HR.out.1 Tryd.underlying42 rfl size42 ⟨?_, HR.out.2⟩
      rw [← HE.out]
      exact rfl
end Go.Proofs.YtgmfiljjogdccaaDoor
namespace Go.Proofs.YtgmfiljjogdccaaDoor
abbrev rwLink : Go.Conc.Locks.RwLink := { lock := 103, unlock := 0, ilock := 0, iunlock := 0, lockSlow := 0, unlockSlow := 0, disable := 59, enable := 62, acquire := 79, relMerge := 58, cas32 := 0, add32 := 80, tMutex := 75, tIMutex := 73, tPMutex := 109, tPIMutex := 0, tPI32 := 131, tUP := 108, tNoCopy := 71, tU32 := 50, rlock := 56, runlock := 40, wlock := 102, wunlock := 0, i32add := 60, raceRead := 57, release := 0, rUnlockSlow := 61, semacqR := 78, semacqW := 0, semrel := 82, sfatal := 81, tRW := 80, tPRW := 106, tAI32 := 78, tPAI32 := 129, tPU32 := 110, tANoCopy := 76 }
theorem rwCore : Go.Conc.Locks.RwCore Tryd.prog rwLink :=
  ⟨Tryd.func60, Tryd.func57, Tryd.func59, Tryd.func62, Tryd.func79, Tryd.func58, Tryd.func80, Tryd.underlying80, Tryd.runUnderlying80, Tryd.sizeOf80, Tryd.isAgg80, Tryd.zeroValue80, Tryd.underlying78, Tryd.runUnderlying78, Tryd.sizeOf78, Tryd.isAgg78, Tryd.zeroValue78, Tryd.underlying106, Tryd.runUnderlying106, Tryd.sizeOf106, Tryd.isAgg106, Tryd.zeroValue106, Tryd.underlying129, Tryd.runUnderlying129, Tryd.sizeOf129, Tryd.isAgg129, Tryd.zeroValue129, Tryd.underlying110, Tryd.runUnderlying110, Tryd.sizeOf110, Tryd.isAgg110, Tryd.zeroValue110, Tryd.underlying76, Tryd.runUnderlying76, Tryd.sizeOf76, Tryd.isAgg76, Tryd.zeroValue76, Tryd.underlying50, Tryd.runUnderlying50, Tryd.sizeOf50, Tryd.isAgg50, Tryd.zeroValue50, Tryd.underlying75, Tryd.runUnderlying75, Tryd.sizeOf75, Tryd.isAgg75, Tryd.zeroValue75, Tryd.underlying109, Tryd.runUnderlying109, Tryd.sizeOf109, Tryd.isAgg109, Tryd.zeroValue109, Tryd.underlying131, Tryd.runUnderlying131, Tryd.sizeOf131, Tryd.isAgg131, Tryd.zeroValue131, Tryd.underlying108, Tryd.runUnderlying108, Tryd.sizeOf108, Tryd.isAgg108, Tryd.zeroValue108, Tryd.underlying21, Tryd.runUnderlying21, Tryd.sizeOf21, Tryd.isAgg21, Tryd.zeroValue21, (by kernel_rfl), (by kernel_rfl)⟩
theorem rwRLib : Go.Conc.Locks.RwRLib Tryd.prog rwLink := ⟨rwCore, Tryd.func56, Tryd.func40⟩
end Go.Proofs.YtgmfiljjogdccaaDoor
namespace Go.Proofs.YtgmfiljjogdccaaDoor
open Go.RowKit Go.RwLone
set_option linter.unusedVariables false
theorem touch_new {w v : World} {g o n : Nat} (h : Touch w v g o n) {b : Nat} (hb : w.heap.size ≤ b) (vs : List Value) (o' : Nat) (hg : g < w.heap.size) : Touch w (v.setCells b o' vs) g o n :=
  ⟨by rw [setCells_os]; exact h.os, by rw [setCells_tape]; exact h.tape, by rw [setCells_output]; exact h.output, by rw [sizeB_setCells]; exact h.size,
    fun k hk hne => by rw [World.heap_setCells_other v b o' vs (by have := h.size; omega) (by omega)]; exact h.block k hk hne,
    fun j hj => by rw [World.cell?_setCells_out b vs o' v ⟨g, j, none⟩ (fun e _ => absurd e (by simp; omega))]; exact h.cell j hj,
    fun o2 n2 ht => World.there_setCells (h.there o2 n2 ht) b o' vs⟩
theorem KeyAt.touch {w w' : World} {g nr : Nat} {K : Nat → Nat} (h : KeyAt w g nr K) (ht : Touch w w' g 4 1) (hc : w'.cell? ⟨g, 4, none⟩ = some (.int .i32 0)) : KeyAt w' g nr K := by
  refine ⟨⟨(ht.cell 6 (by omega)).trans h.ciph.rounds, fun i hi => (ht.cell (6 + 1 + i) (by omega)).trans (h.ciph.words i hi), h.ciph.small, ⟨fun b hb => (ht.cell _ (by omega)).trans (h.ciph.tab.s b hb), fun b hb => (ht.cell _ (by omega)).trans (h.ciph.tab.u b hb), fun b hb => (ht.cell _ (by omega)).trans (h.ciph.tab.m b hb), fun b hb => (ht.cell _ (by omega)).trans (h.ciph.tab.n b hb)⟩, Nat.lt_of_lt_of_le h.ciph.here ht.size, h.ciph.some, h.ciph.most⟩, hc, ht.there _ _ h.room⟩
/-- While a call holds the key. -/
theorem held_ciph {w : World} {g nr : Nat} {K : Nat → Nat} (h : KeyAt w g nr K) (c : Int) : Ciph (w.setCell ⟨g, 4, none⟩ (.int .i32 c)) g 6 nr K := by
  have ht : Touch w (w.setCell ⟨g, 4, none⟩ (.int .i32 c)) g 4 1 := (Touch.refl w g 4 1).setCell 4 _ (by omega) (by omega)
  exact ⟨(ht.cell 6 (by omega)).trans h.ciph.rounds, fun i hi => (ht.cell (6 + 1 + i) (by omega)).trans (h.ciph.words i hi), h.ciph.small, ⟨fun b hb => (ht.cell _ (by omega)).trans (h.ciph.tab.s b hb), fun b hb => (ht.cell _ (by omega)).trans (h.ciph.tab.u b hb), fun b hb => (ht.cell _ (by omega)).trans (h.ciph.tab.m b hb), fun b hb => (ht.cell _ (by omega)).trans (h.ciph.tab.n b hb)⟩, Nat.lt_of_lt_of_le h.ciph.here ht.size, h.ciph.some, h.ciph.most⟩
theorem cell_of_there {w : World} {g o n : Nat} (h : w.there g o n) (j : Nat) (hj : j < n) : ∃ v, w.cell? ⟨g, o + j, none⟩ = some v := Option.isSome_iff_exists.1 (h j hj).1
set_option maxHeartbeats 1600000 in
set_option maxRecDepth 100000 in
theorem hold_ok (g nr : Nat) (K : Nat → Nat) (w : World) (h : KeyAt w g nr K) : Calls Tryd.prog 39 #[.pointer (some ⟨g, 0, none⟩)] w fun e w' => e = .returned (.int .i64 0) ∧ w' = w.setCell ⟨g, 4, none⟩ (.int .i32 1) := by
  obtain ⟨x0, c0⟩ := cell_of_there h.room 0 (by decide)
  obtain ⟨x3, c3⟩ := cell_of_there h.room 3 (by decide)
  have hz := (h.room 4 (by decide)).2
  have hc := h.count
  have KL : Hid (Calls Tryd.prog 56 #[.pointer (some ⟨g, 0, none⟩)] w fun e w' => e = .returned (.tuple #[]) ∧ w' = w.setCell ⟨g, 4, none⟩ (.int .i32 1))  := by
    have h := rlock_open rwRLib g 0 0 x0 x3 w c0 c3 hc hz (by decide +kernel)
    rw [show wrap32 (0 + 1) = 1 by decide +kernel] at h
    exact h
  have cr : (w.setCell ⟨g, 4, none⟩ (.int .i32 1)).cell? ⟨g, 6, none⟩ = some (.int .i64 (nr : Nat)) := (held_ciph h 1).rounds
  have hn : (((nr : Nat) : Int) == 0) = false := by have := h.ciph.some; simp; omega
  clear c0 c3 hz hc h
  go_enter Tryd.func39, Tryd.ntmps39
  go_wp2_with (first | (go_at_call 56; refine KL.out.mono ?_))
  rintro e1 w1 ⟨rfl, hw1⟩
  obtain rfl := hw1.symm
  go_wp2
  go_ret
  exact ⟨rfl, rfl⟩
theorem hold_nil (w : World) : Calls Tryd.prog 39 #[.pointer none] w fun e w' => e = .returned (.int .i64 1) ∧ w' = w := by
  go_enter Tryd.func39, Tryd.ntmps39
  go_wp2
  go_ret
  exact ⟨rfl, rfl⟩
end Go.Proofs.YtgmfiljjogdccaaDoor
namespace Go.Proofs.YtgmfiljjogdccaaDoor
open Go.RowKit Go.RwLone
set_option linter.unusedVariables false
/-- The key is let go. -/
theorem unlocked {w w3 : World} {g nr : Nat} {K : Nat → Nat} (hk : KeyAt w g nr K) (ht : Touch w w3 g 4 1) (hc : w3.cell? ⟨g, 4, none⟩ = some (.int .i32 1)) :
    CallsD Tryd.prog 40 #[.pointer (some ⟨g, 0, none⟩)] .returning w3 fun e u' w' => u' = .returning ∧ e = .returned (.tuple #[]) ∧ KeyAt w' g nr K ∧ Touch w w' g 4 1 ∧ w' = w3.setCells g 4 [.int .i32 0] := by
  have hroom : w3.there g 0 1091 := ht.there _ _ hk.room
  obtain ⟨x0, c0⟩ := cell_of_there hroom 0 (by decide)
  obtain ⟨x2, c2⟩ := cell_of_there hroom 2 (by decide)
  have hz := (hroom 4 (by decide)).2
  refine (runlock_deferred rwRLib g 0 1 x0 x2 .returning w3 c0 c2 hc hz (by decide +kernel)).mono ?_
  rintro e u' w' ⟨rfl, rfl, hw⟩
  rw [show wrap32 (1 + -1) = 0 by decide +kernel] at hw
  have hw' : w' = w3.setCells g 4 [.int .i32 0] := hw
  have ht' : Touch w w' g 4 1 := by rw [hw']; exact ht.setCells 4 _ (by omega) (by simp)
  have hc' : w'.cell? ⟨g, 4, none⟩ = some (.int .i32 0) := by
    rw [hw]
    exact World.cell?_setCell_same' _ _ _ (by rw [show (0 + 4) = 4 from rfl, hc]; rfl)
  exact ⟨rfl, rfl, hk.touch ht' hc', ht', hw'⟩
theorem held {w w1 : World} {g nr : Nat} {K : Nat → Nat} (h : KeyAt w g nr K) (hw : w1 = w.setCell ⟨g, 4, none⟩ (.int .i32 1)) : Ciph w1 g 6 nr K ∧ Touch w w1 g 4 1 ∧ w1.cell? ⟨g, 4, none⟩ = some (.int .i32 1) := by
  rw [hw]
  refine ⟨held_ciph h 1, (Touch.refl _ g 4 1).setCell 4 _ (by omega) (by omega), ?_⟩
  have := (h.room 4 (by decide)).1
  exact World.cell?_setCell_same' _ _ _ (by simpa using this)
set_option maxHeartbeats 1600000 in
set_option maxRecDepth 100000 in
theorem size_ok (g nr : Nat) (K : Nat → Nat) (w : World) (h : KeyAt w g nr K) (h6 : 6 ≤ nr) : Calls Tryd.prog 13 #[.pointer (some ⟨g, 0, none⟩)] w fun e w' => e = .returned (.int .i64 (4 * (nr - 6) : Nat)) ∧ KeyAt w' g nr K ∧ Touch w w' g 4 1 := by
  have HK : Hid (KeyAt w g nr K) := h
  have HH : Hid (Calls Tryd.prog 39 #[.pointer (some ⟨g, 0, none⟩)] w fun e w' => e = .returned (.int .i64 0) ∧ w' = w.setCell ⟨g, 4, none⟩ (.int .i32 1)) := hold_ok g nr K w h
  have h14 := h.ciph.most
  clear h
  go_enter_defers Tryd.func13, Tryd.ntmps13
  go_wp2_with (first | (go_at_call 39; refine HH.out.mono ?_))
  rintro e1 w1 ⟨rfl, hw1⟩
  have H1 : Hid (Ciph w1 g 6 nr K ∧ Touch w w1 g 4 1 ∧ w1.cell? ⟨g, 4, none⟩ = some (.int .i32 1)) := held HK.out hw1
  clear hw1 HH
  have cr : w1.cell? ⟨g, 6, none⟩ = some (.int .i64 (nr : Nat)) := H1.out.1.rounds
  go_wp2_with fail
  refine leaves_cons (f := 40) (args := #[.pointer (some ⟨g, 0, none⟩)]) (by simp) (by simp [go_sem]) ?_
  refine (unlocked HK.out H1.out.2.1 H1.out.2.2).mono ?_
  rintro e5 u5 w5 ⟨rfl, rfl, hk5, ht5, _⟩
  refine ⟨_, results_tmp rfl _ _ _, ?_, hk5, ht5⟩
  show Ending.returned (.int .i64 (4 * ((nr : Int) - 6))) = _
  exact ret_int (by omega)
set_option maxHeartbeats 1600000 in
set_option maxRecDepth 100000 in
theorem rounds_ok (g nr : Nat) (K : Nat → Nat) (w : World) (h : KeyAt w g nr K) : Calls Tryd.prog 14 #[.pointer (some ⟨g, 0, none⟩)] w fun e w' => e = .returned (.int .i64 (nr : Nat)) ∧ KeyAt w' g nr K ∧ Touch w w' g 4 1 := by
  have HK : Hid (KeyAt w g nr K) := h
  have HH : Hid (Calls Tryd.prog 39 #[.pointer (some ⟨g, 0, none⟩)] w fun e w' => e = .returned (.int .i64 0) ∧ w' = w.setCell ⟨g, 4, none⟩ (.int .i32 1)) := hold_ok g nr K w h
  clear h
  go_enter_defers Tryd.func14, Tryd.ntmps14
  go_wp2_with (first | (go_at_call 39; refine HH.out.mono ?_))
  rintro e1 w1 ⟨rfl, hw1⟩
  have H1 : Hid (Ciph w1 g 6 nr K ∧ Touch w w1 g 4 1 ∧ w1.cell? ⟨g, 4, none⟩ = some (.int .i32 1)) := held HK.out hw1
  clear hw1 HH
  have cr : w1.cell? ⟨g, 6, none⟩ = some (.int .i64 (nr : Nat)) := H1.out.1.rounds
  go_wp2_with fail
  refine leaves_cons (f := 40) (args := #[.pointer (some ⟨g, 0, none⟩)]) (by simp) (by simp [go_sem]) ?_
  refine (unlocked HK.out H1.out.2.1 H1.out.2.2).mono ?_
  rintro e5 u5 w5 ⟨rfl, rfl, hk5, ht5, _⟩
  exact ⟨_, results_tmp rfl _ _ _, rfl, hk5, ht5⟩
end Go.Proofs.YtgmfiljjogdccaaDoor
