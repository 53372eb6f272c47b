import Derived.Test.YtioggmjocelolacDoorStE
namespace Go.Proofs.YtioggmjocelolacDoor
open Go.RowKit
set_option linter.unusedVariables false
set_option linter.unusedSimpArgs false
/-- The bytes U1, U2, .. of a block of PBKDF2: all 64 that are spelled. -/
def sbU (h : Int) (si so : Eight) (zs : List Int) : Nat → List Int
  | 0 => spellL (wdOf h) (macE h si so zs)
  | t + 1 => spellL (wdOf h) (macE h si so ((sbU h si so zs t).take (szOf h)))
def xorL (a b : List Int) : List Int := List.zipWith (fun x y => bits .xor .u8 x y) a b
def sbS (h : Int) (si so : Eight) (zs : List Int) : Nat → List Int
  | 0 => sbU h si so zs 0
  | t + 1 => xorL (sbS h si so zs t) (sbU h si so zs (t + 1))
theorem sbU_length (h : Int) (si so : Eight) (zs : List Int) (t : Nat) : (sbU h si so zs t).length = 64 := by cases t <;> exact spellL_length _ _
theorem xorL_length {a b : List Int} {n : Nat} (ha : a.length = n) (hb : b.length = n) : (xorL a b).length = n := by simp [xorL, ha, hb]
theorem sbS_length (h : Int) (si so : Eight) (zs : List Int) : ∀ t, (sbS h si so zs t).length = 64
  | 0 => sbU_length h si so zs 0
  | t + 1 => xorL_length (sbS_length h si so zs t) (sbU_length h si so zs (t + 1))
theorem fnz_xorL {a b : List Int} (i : Nat) (ha : i < a.length) (hb : i < b.length) : fnz (xorL a b) i = bits .xor .u8 (fnz a i) (fnz b i) := by
  simp [fnz, xorL, List.getD, List.getElem?_zipWith, List.getElem?_eq_getElem ha, List.getElem?_eq_getElem hb]
theorem fnz_at {zs : List Int} {i : Nat} (h : i < zs.length) : (cellsU8 zs)[i]? = some (.int .u8 (fnz zs i)) := by
  simp [cellsU8, fnz, List.getD, List.getElem?_eq_getElem h]
theorem range_fnz {w : World} {b : Nat} {zs : List Int} (h : ∀ i, i < zs.length → w.cell? ⟨b, i, none⟩ = some (.int .u8 (fnz zs i))) : w.rangeAt b 0 (cellsU8 zs) := fun j v hv => by
  have hj : j < zs.length := by
    rcases Nat.lt_or_ge j zs.length with h1 | h1
    · exact h1
    · rw [List.getElem?_eq_none (by simpa [cellsU8] using h1)] at hv; cases hv
  rw [fnz_at hj] at hv
  rw [Nat.zero_add, h j hj]
  exact hv
theorem fnz_range {w : World} {b : Nat} {zs : List Int} (h : w.rangeAt b 0 (cellsU8 zs)) : ∀ i, i < zs.length → w.cell? ⟨b, i, none⟩ = some (.int .u8 (fnz zs i)) := fun i hi => by
  have q := h i _ (fnz_at hi)
  rwa [Nat.zero_add] at q
/-- What stretchBlock's memory is between two steps. -/
structure SB (w wr : World) (g : Nat) (h : Int) (r0 bu bs : Nat) (U S : Nat → Int) : Prop where
  touch : Touch w wr g 0 139
  mac : ∃ s half fed, TK wr g 0 h (wdOf h) s half fed
  u : ∀ i, i < 64 → wr.cell? ⟨bu, i, none⟩ = some (.int .u8 (U i))
  s : ∀ i, i < 64 → wr.cell? ⟨bs, i, none⟩ = some (.int .u8 (S i))
  ut : wr.there bu 0 64
  st : wr.there bs 0 64
  rt : wr.there r0 0 64
  lt : g < w.heap.size ∧ w.heap.size ≤ r0 ∧ r0 < bu ∧ bu < bs ∧ bs < wr.heap.size
theorem SB.touched {w wr v : World} {g : Nat} {h : Int} {r0 bu bs : Nat} {U S : Nat → Int} (b : SB w wr g h r0 bu bs U S) (t : Touch wr v g 0 139) (m : ∃ s half fed, TK v g 0 h (wdOf h) s half fed) : SB w v g h r0 bu bs U S := by
  have hl := b.lt
  refine ⟨b.touch.trans t, m, fun i hi => ?_, fun i hi => ?_, t.thereFar b.ut (by omega) (by omega), t.thereFar b.st (by omega) (by omega), t.thereFar b.rt (by omega) (by omega), hl.1, hl.2.1, hl.2.2.1, hl.2.2.2.1, Nat.lt_of_lt_of_le hl.2.2.2.2 t.size⟩
  · rw [t.far (p := ⟨bu, i, none⟩) (by show bu < _; omega) (by show bu ≠ g; omega)]; exact b.u i hi
  · rw [t.far (p := ⟨bs, i, none⟩) (by show bs < _; omega) (by show bs ≠ g; omega)]; exact b.s i hi
theorem SB.setU {w wr : World} {g : Nat} {h : Int} {r0 bu bs : Nat} {U S : Nat → Int} (b : SB w wr g h r0 bu bs U S) (zs : List Int) (hz : zs.length = 64) : SB w (wr.setCells bu 0 (cellsU8 zs)) g h r0 bu bs (fnz zs) S := by
  have hl := b.lt
  obtain ⟨s, half, fed, hk⟩ := b.mac
  refine ⟨touch_new b.touch (by omega) _ 0 hl.1, ⟨s, half, fed, hk.newer (by omega) _ 0⟩, fun i hi => ?_, fun i hi => ?_, World.there_setCells b.ut _ _ _, World.there_setCells b.st _ _ _, World.there_setCells b.rt _ _ _, hl.1, hl.2.1, hl.2.2.1, hl.2.2.2.1, by rw [size_setCells]; exact hl.2.2.2.2⟩
  · exact fnz_range (World.rangeAt_setCells_same wr bu 0 (cellsU8 zs) (by rw [cellsU8_length, hz]; exact b.ut)) i (by omega)
  · rw [World.cell?_setCells_out bu _ 0 _ ⟨bs, i, none⟩ (fun e => by have : bs = bu := e; omega)]; exact b.s i hi
theorem SB.setS {w wr : World} {g : Nat} {h : Int} {r0 bu bs : Nat} {U S : Nat → Int} (b : SB w wr g h r0 bu bs U S) (k : Nat) (hk : k < 64) (x : Int) (S' : Nat → Int) (hx : S' k = x) (hS : ∀ i, i < 64 → i ≠ k → S' i = S i) : SB w (wr.setCell ⟨bs, k, none⟩ (.int .u8 x)) g h r0 bu bs U S' := by
  have hl := b.lt
  obtain ⟨s, half, fed, hm⟩ := b.mac
  refine ⟨b.touch.setNew bs k _ (by omega) hl.1, ⟨s, half, fed, hm.newer (b := bs) (by omega) [.int .u8 x] k⟩, fun i hi => ?_, fun i hi => ?_, World.there_setCells b.ut bs k [.int .u8 x], World.there_setCells b.st bs k [.int .u8 x], World.there_setCells b.rt bs k [.int .u8 x], hl.1, hl.2.1, hl.2.2.1, hl.2.2.2.1, by have := size_setCells bs [.int .u8 x] k wr; rw [show wr.setCell ⟨bs, k, none⟩ (.int .u8 x) = wr.setCells bs k [.int .u8 x] from rfl, this]; exact hl.2.2.2.2⟩
  · rw [World.cell?_setCell_other _ _ _ _ (by intro q; injection q with q1 q2; omega)]; exact b.u i hi
  · by_cases e : i = k
    · subst e
      rw [hx]
      exact World.cell?_setCell_same' _ _ _ (by rw [b.s i hi]; rfl)
    · rw [World.cell?_setCell_other _ _ _ _ (by intro q; injection q with q1 q2; omega), hS i hi e]; exact b.s i hi
theorem SB.drewN {w wr : World} {g : Nat} {h : Int} {r0 bu bs : Nat} {U S : Nat → Int} (b : SB w wr g h r0 bu bs U S) (m : Nat) : SB w (wr.drewN m) g h r0 bu bs U S := ⟨b.touch.drewN m, b.mac.imp fun _ q => q.imp fun _ q => q.imp fun _ q => q.sm ((Sm.refl wr).drewN m), b.u, b.s, b.ut, b.st, b.rt, b.lt⟩
theorem SB.congr {w wr : World} {g : Nat} {h : Int} {r0 bu bs : Nat} {U S U' S' : Nat → Int} (b : SB w wr g h r0 bu bs U S) (hU : ∀ i, i < 64 → U' i = U i) (hS : ∀ i, i < 64 → S' i = S i) : SB w wr g h r0 bu bs U' S' := ⟨b.touch, b.mac, fun i hi => by rw [hU i hi]; exact b.u i hi, fun i hi => by rw [hS i hi]; exact b.s i hi, b.ut, b.st, b.rt, b.lt⟩
/-- The first k of a sum, and the others of the one before. -/
def mixF (S U : Nat → Int) (k i : Nat) : Int := if i < k then bits .xor .u8 (S i) (U i) else S i
set_option maxHeartbeats 1600000 in
set_option maxRecDepth 100000 in
/-- Mac.stretchBlock. -/
theorem stretchBlock (g : Nat) (h : Int) (si so : Eight) (zs : List Int) (T : Int) (t1 : Nat) (w : World) (k : Hid (Known h)) (hm : Hid (MRep w g h si so zs)) (hT : Hid (Tables w)) (hg : 4 ≤ g) (hfed : Hid (zs.length ≤ 1152921504606000000)) (hT1 : T - 1 = (t1 : Nat)) (ht1 : (t1 : Int) ≤ 1048576) :
    Calls Tryd.prog 39 #[.pointer (some ⟨g, 0, none⟩), .int .i64 T] w fun e w' => e = .returned (.agg (cellsU8 (sbS h si so zs t1)).toArray) ∧ Touch w w' g 0 139 ∧ ∃ s half fed, TK w' g 0 h (wdOf h) s half fed := by
  have HBS : Hid (bsz (wdOf h) ≤ 128) := by show _ ≤ _; cases wdOf h <;> decide
  have HGW : Hid (g < w.heap.size) := hm.out.2.lt
  have hTb : T ≤ 1048577 := by omega
  have hTa : 1 ≤ T := by omega
  go_enter Tryd.func39, Tryd.ntmps39
  go_upto_region 1 with fail
  have HB0 : Hid (Below w.heap.size w (w.alloc (.cells #[.int .u8 0, .int .u8 0, .int .u8 0, .int .u8 0, .int .u8 0, .int .u8 0, .int .u8 0, .int .u8 0, .int .u8 0, .int .u8 0, .int .u8 0, .int .u8 0, .int .u8 0, .int .u8 0, .int .u8 0, .int .u8 0, .int .u8 0, .int .u8 0, .int .u8 0, .int .u8 0, .int .u8 0, .int .u8 0, .int .u8 0, .int .u8 0, .int .u8 0, .int .u8 0, .int .u8 0, .int .u8 0, .int .u8 0, .int .u8 0, .int .u8 0, .int .u8 0, .int .u8 0, .int .u8 0, .int .u8 0, .int .u8 0, .int .u8 0, .int .u8 0, .int .u8 0, .int .u8 0, .int .u8 0, .int .u8 0, .int .u8 0, .int .u8 0, .int .u8 0, .int .u8 0, .int .u8 0, .int .u8 0, .int .u8 0, .int .u8 0, .int .u8 0, .int .u8 0, .int .u8 0, .int .u8 0, .int .u8 0, .int .u8 0, .int .u8 0, .int .u8 0, .int .u8 0, .int .u8 0, .int .u8 0, .int .u8 0, .int .u8 0, .int .u8 0] 72)) ∧ (w.alloc (.cells #[.int .u8 0, .int .u8 0, .int .u8 0, .int .u8 0, .int .u8 0, .int .u8 0, .int .u8 0, .int .u8 0, .int .u8 0, .int .u8 0, .int .u8 0, .int .u8 0, .int .u8 0, .int .u8 0, .int .u8 0, .int .u8 0, .int .u8 0, .int .u8 0, .int .u8 0, .int .u8 0, .int .u8 0, .int .u8 0, .int .u8 0, .int .u8 0, .int .u8 0, .int .u8 0, .int .u8 0, .int .u8 0, .int .u8 0, .int .u8 0, .int .u8 0, .int .u8 0, .int .u8 0, .int .u8 0, .int .u8 0, .int .u8 0, .int .u8 0, .int .u8 0, .int .u8 0, .int .u8 0, .int .u8 0, .int .u8 0, .int .u8 0, .int .u8 0, .int .u8 0, .int .u8 0, .int .u8 0, .int .u8 0, .int .u8 0, .int .u8 0, .int .u8 0, .int .u8 0, .int .u8 0, .int .u8 0, .int .u8 0, .int .u8 0, .int .u8 0, .int .u8 0, .int .u8 0, .int .u8 0, .int .u8 0, .int .u8 0, .int .u8 0, .int .u8 0] 72)).there w.heap.size 0 64 ∧ (w.alloc (.cells #[.int .u8 0, .int .u8 0, .int .u8 0, .int .u8 0, .int .u8 0, .int .u8 0, .int .u8 0, .int .u8 0, .int .u8 0, .int .u8 0, .int .u8 0, .int .u8 0, .int .u8 0, .int .u8 0, .int .u8 0, .int .u8 0, .int .u8 0, .int .u8 0, .int .u8 0, .int .u8 0, .int .u8 0, .int .u8 0, .int .u8 0, .int .u8 0, .int .u8 0, .int .u8 0, .int .u8 0, .int .u8 0, .int .u8 0, .int .u8 0, .int .u8 0, .int .u8 0, .int .u8 0, .int .u8 0, .int .u8 0, .int .u8 0, .int .u8 0, .int .u8 0, .int .u8 0, .int .u8 0, .int .u8 0, .int .u8 0, .int .u8 0, .int .u8 0, .int .u8 0, .int .u8 0, .int .u8 0, .int .u8 0, .int .u8 0, .int .u8 0, .int .u8 0, .int .u8 0, .int .u8 0, .int .u8 0, .int .u8 0, .int .u8 0, .int .u8 0, .int .u8 0, .int .u8 0, .int .u8 0, .int .u8 0, .int .u8 0, .int .u8 0, .int .u8 0] 72)).heap.size = w.heap.size + 1) := ⟨(Below.refl _ _).alloc (Nat.le_refl _) _, there_new w _ 72 64 (by decide), by simp⟩
  generalize w.alloc (.cells #[.int .u8 0, .int .u8 0, .int .u8 0, .int .u8 0, .int .u8 0, .int .u8 0, .int .u8 0, .int .u8 0, .int .u8 0, .int .u8 0, .int .u8 0, .int .u8 0, .int .u8 0, .int .u8 0, .int .u8 0, .int .u8 0, .int .u8 0, .int .u8 0, .int .u8 0, .int .u8 0, .int .u8 0, .int .u8 0, .int .u8 0, .int .u8 0, .int .u8 0, .int .u8 0, .int .u8 0, .int .u8 0, .int .u8 0, .int .u8 0, .int .u8 0, .int .u8 0, .int .u8 0, .int .u8 0, .int .u8 0, .int .u8 0, .int .u8 0, .int .u8 0, .int .u8 0, .int .u8 0, .int .u8 0, .int .u8 0, .int .u8 0, .int .u8 0, .int .u8 0, .int .u8 0, .int .u8 0, .int .u8 0, .int .u8 0, .int .u8 0, .int .u8 0, .int .u8 0, .int .u8 0, .int .u8 0, .int .u8 0, .int .u8 0, .int .u8 0, .int .u8 0, .int .u8 0, .int .u8 0, .int .u8 0, .int .u8 0, .int .u8 0, .int .u8 0] 72) = w0 at HB0 ⊢
  have HM0 : Hid (MRep w0 g h si so zs) := hm.out.below HB0.out.1
  have HT0 : Hid (Tables w0) := hT.out.below HB0.out.1 hT.out.size
  go_wp2_with (go_at_call 57; refine (finishCode g h si so zs w0 k HM0 HT0 hg hfed).mono ?_)
  rintro e1 w1 ⟨rfl, ht1', hk1⟩
  obtain ⟨C, HC⟩ : ∃ C : List Value, Hid (C = cellsU8 (sbU h si so zs 0)) := ⟨_, rfl⟩
  rw [spellCells_eq, ← show sbU h si so zs 0 = spellL (wdOf h) (macE h si so zs) from rfl, ← HC.out]
  have HL : Hid (C.length = 64) := by show C.length = 64; rw [HC.out, cellsU8_length, sbU_length]
  have HLA : Hid (C.toArray.size = 64) := by show C.toArray.size = 64; simpa using HL.out
  have HO : Hid (C.toArray.all (·.oneCell') = true) := all_oneCell_toArray (by rw [HC.out]; exact cellsU8_one _)
  have HW1 : Hid (Touch w w1 g 0 139 ∧ w1.there w.heap.size 0 64 ∧ w.heap.size + 1 ≤ w1.heap.size ∧ ∃ s half fed, TK w1 g 0 h (wdOf h) s half fed) := ⟨((Touch.refl w g 0 139).below HB0.out.1 HGW.out).trans ht1', ht1'.thereFar HB0.out.2.1 (by have := HB0.out.2.2; omega) (by have := HGW.out; omega), by have h1 := ht1'.size; have h2 := HB0.out.2.2; omega, hk1⟩
  have HX : Hid ((w1.alloc (.cells #[.int .u8 0, .int .u8 0, .int .u8 0, .int .u8 0, .int .u8 0, .int .u8 0, .int .u8 0, .int .u8 0, .int .u8 0, .int .u8 0, .int .u8 0, .int .u8 0, .int .u8 0, .int .u8 0, .int .u8 0, .int .u8 0, .int .u8 0, .int .u8 0, .int .u8 0, .int .u8 0, .int .u8 0, .int .u8 0, .int .u8 0, .int .u8 0, .int .u8 0, .int .u8 0, .int .u8 0, .int .u8 0, .int .u8 0, .int .u8 0, .int .u8 0, .int .u8 0, .int .u8 0, .int .u8 0, .int .u8 0, .int .u8 0, .int .u8 0, .int .u8 0, .int .u8 0, .int .u8 0, .int .u8 0, .int .u8 0, .int .u8 0, .int .u8 0, .int .u8 0, .int .u8 0, .int .u8 0, .int .u8 0, .int .u8 0, .int .u8 0, .int .u8 0, .int .u8 0, .int .u8 0, .int .u8 0, .int .u8 0, .int .u8 0, .int .u8 0, .int .u8 0, .int .u8 0, .int .u8 0, .int .u8 0, .int .u8 0, .int .u8 0, .int .u8 0] 72)).there w1.heap.size 0 64) := there_new w1 _ 72 64 (by decide)
  clear ht1' hk1 HB0 HM0 HT0
  go_upto_region 2 with (first
    | (refine wpList_store_mid (by rfl) 72 (.tmp 5) (.tmp 10) (by rfl) w1.heap.size 0 C.toArray (by rfl) (by rfl) (by rw [HLA.out]; exact HX.out) (by rw [HLA.out]; exact size75) HO.out ?_)
    | fail)
  have HR2 : Hid (((w1.alloc (.cells #[.int .u8 0, .int .u8 0, .int .u8 0, .int .u8 0, .int .u8 0, .int .u8 0, .int .u8 0, .int .u8 0, .int .u8 0, .int .u8 0, .int .u8 0, .int .u8 0, .int .u8 0, .int .u8 0, .int .u8 0, .int .u8 0, .int .u8 0, .int .u8 0, .int .u8 0, .int .u8 0, .int .u8 0, .int .u8 0, .int .u8 0, .int .u8 0, .int .u8 0, .int .u8 0, .int .u8 0, .int .u8 0, .int .u8 0, .int .u8 0, .int .u8 0, .int .u8 0, .int .u8 0, .int .u8 0, .int .u8 0, .int .u8 0, .int .u8 0, .int .u8 0, .int .u8 0, .int .u8 0, .int .u8 0, .int .u8 0, .int .u8 0, .int .u8 0, .int .u8 0, .int .u8 0, .int .u8 0, .int .u8 0, .int .u8 0, .int .u8 0, .int .u8 0, .int .u8 0, .int .u8 0, .int .u8 0, .int .u8 0, .int .u8 0, .int .u8 0, .int .u8 0, .int .u8 0, .int .u8 0, .int .u8 0, .int .u8 0, .int .u8 0, .int .u8 0] 72)).setCells w1.heap.size 0 C).rangeAt w1.heap.size 0 C) := World.rangeAt_setCells_same _ _ _ _ (by rw [HL.out]; exact HX.out)
  have HB2 : Hid (Below w1.heap.size w1 ((w1.alloc (.cells #[.int .u8 0, .int .u8 0, .int .u8 0, .int .u8 0, .int .u8 0, .int .u8 0, .int .u8 0, .int .u8 0, .int .u8 0, .int .u8 0, .int .u8 0, .int .u8 0, .int .u8 0, .int .u8 0, .int .u8 0, .int .u8 0, .int .u8 0, .int .u8 0, .int .u8 0, .int .u8 0, .int .u8 0, .int .u8 0, .int .u8 0, .int .u8 0, .int .u8 0, .int .u8 0, .int .u8 0, .int .u8 0, .int .u8 0, .int .u8 0, .int .u8 0, .int .u8 0, .int .u8 0, .int .u8 0, .int .u8 0, .int .u8 0, .int .u8 0, .int .u8 0, .int .u8 0, .int .u8 0, .int .u8 0, .int .u8 0, .int .u8 0, .int .u8 0, .int .u8 0, .int .u8 0, .int .u8 0, .int .u8 0, .int .u8 0, .int .u8 0, .int .u8 0, .int .u8 0, .int .u8 0, .int .u8 0, .int .u8 0, .int .u8 0, .int .u8 0, .int .u8 0, .int .u8 0, .int .u8 0, .int .u8 0, .int .u8 0, .int .u8 0, .int .u8 0] 72)).setCells w1.heap.size 0 C) ∧ ((w1.alloc (.cells #[.int .u8 0, .int .u8 0, .int .u8 0, .int .u8 0, .int .u8 0, .int .u8 0, .int .u8 0, .int .u8 0, .int .u8 0, .int .u8 0, .int .u8 0, .int .u8 0, .int .u8 0, .int .u8 0, .int .u8 0, .int .u8 0, .int .u8 0, .int .u8 0, .int .u8 0, .int .u8 0, .int .u8 0, .int .u8 0, .int .u8 0, .int .u8 0, .int .u8 0, .int .u8 0, .int .u8 0, .int .u8 0, .int .u8 0, .int .u8 0, .int .u8 0, .int .u8 0, .int .u8 0, .int .u8 0, .int .u8 0, .int .u8 0, .int .u8 0, .int .u8 0, .int .u8 0, .int .u8 0, .int .u8 0, .int .u8 0, .int .u8 0, .int .u8 0, .int .u8 0, .int .u8 0, .int .u8 0, .int .u8 0, .int .u8 0, .int .u8 0, .int .u8 0, .int .u8 0, .int .u8 0, .int .u8 0, .int .u8 0, .int .u8 0, .int .u8 0, .int .u8 0, .int .u8 0, .int .u8 0, .int .u8 0, .int .u8 0, .int .u8 0, .int .u8 0] 72)).setCells w1.heap.size 0 C).heap.size = w1.heap.size + 1 ∧ ((w1.alloc (.cells #[.int .u8 0, .int .u8 0, .int .u8 0, .int .u8 0, .int .u8 0, .int .u8 0, .int .u8 0, .int .u8 0, .int .u8 0, .int .u8 0, .int .u8 0, .int .u8 0, .int .u8 0, .int .u8 0, .int .u8 0, .int .u8 0, .int .u8 0, .int .u8 0, .int .u8 0, .int .u8 0, .int .u8 0, .int .u8 0, .int .u8 0, .int .u8 0, .int .u8 0, .int .u8 0, .int .u8 0, .int .u8 0, .int .u8 0, .int .u8 0, .int .u8 0, .int .u8 0, .int .u8 0, .int .u8 0, .int .u8 0, .int .u8 0, .int .u8 0, .int .u8 0, .int .u8 0, .int .u8 0, .int .u8 0, .int .u8 0, .int .u8 0, .int .u8 0, .int .u8 0, .int .u8 0, .int .u8 0, .int .u8 0, .int .u8 0, .int .u8 0, .int .u8 0, .int .u8 0, .int .u8 0, .int .u8 0, .int .u8 0, .int .u8 0, .int .u8 0, .int .u8 0, .int .u8 0, .int .u8 0, .int .u8 0, .int .u8 0, .int .u8 0, .int .u8 0] 72)).setCells w1.heap.size 0 C).there w1.heap.size 0 64) := ⟨below_setCells _ (Nat.le_refl _) _ _ _ ((Below.refl _ _).alloc (Nat.le_refl _) _), by rw [size_setCells]; simp, World.there_setCells HX.out _ _ _⟩
  generalize (w1.alloc (.cells #[.int .u8 0, .int .u8 0, .int .u8 0, .int .u8 0, .int .u8 0, .int .u8 0, .int .u8 0, .int .u8 0, .int .u8 0, .int .u8 0, .int .u8 0, .int .u8 0, .int .u8 0, .int .u8 0, .int .u8 0, .int .u8 0, .int .u8 0, .int .u8 0, .int .u8 0, .int .u8 0, .int .u8 0, .int .u8 0, .int .u8 0, .int .u8 0, .int .u8 0, .int .u8 0, .int .u8 0, .int .u8 0, .int .u8 0, .int .u8 0, .int .u8 0, .int .u8 0, .int .u8 0, .int .u8 0, .int .u8 0, .int .u8 0, .int .u8 0, .int .u8 0, .int .u8 0, .int .u8 0, .int .u8 0, .int .u8 0, .int .u8 0, .int .u8 0, .int .u8 0, .int .u8 0, .int .u8 0, .int .u8 0, .int .u8 0, .int .u8 0, .int .u8 0, .int .u8 0, .int .u8 0, .int .u8 0, .int .u8 0, .int .u8 0, .int .u8 0, .int .u8 0, .int .u8 0, .int .u8 0, .int .u8 0, .int .u8 0, .int .u8 0, .int .u8 0] 72)).setCells w1.heap.size 0 C = w2 at HR2 HB2 ⊢
  have HX2 : Hid ((w2.alloc (.cells #[.int .u8 0, .int .u8 0, .int .u8 0, .int .u8 0, .int .u8 0, .int .u8 0, .int .u8 0, .int .u8 0, .int .u8 0, .int .u8 0, .int .u8 0, .int .u8 0, .int .u8 0, .int .u8 0, .int .u8 0, .int .u8 0, .int .u8 0, .int .u8 0, .int .u8 0, .int .u8 0, .int .u8 0, .int .u8 0, .int .u8 0, .int .u8 0, .int .u8 0, .int .u8 0, .int .u8 0, .int .u8 0, .int .u8 0, .int .u8 0, .int .u8 0, .int .u8 0, .int .u8 0, .int .u8 0, .int .u8 0, .int .u8 0, .int .u8 0, .int .u8 0, .int .u8 0, .int .u8 0, .int .u8 0, .int .u8 0, .int .u8 0, .int .u8 0, .int .u8 0, .int .u8 0, .int .u8 0, .int .u8 0, .int .u8 0, .int .u8 0, .int .u8 0, .int .u8 0, .int .u8 0, .int .u8 0, .int .u8 0, .int .u8 0, .int .u8 0, .int .u8 0, .int .u8 0, .int .u8 0, .int .u8 0, .int .u8 0, .int .u8 0, .int .u8 0] 72)).there w2.heap.size 0 64) := there_new w2 _ 72 64 (by decide)
  go_upto_region 3 with (first
    | (refine wpList_load_mid (by rfl) 72 (.tmp 5) (by rfl) w1.heap.size 0 (by rfl) C _ HR2.out Tryd.underlying72 rfl (by rw [HL.out]; exact size75) ?_)
    | (refine wpList_store_mid (by rfl) 72 (.tmp 6) (.tmp 11) (by rfl) w2.heap.size 0 C.toArray (by rfl) (by rfl) (by rw [HLA.out]; exact HX2.out) (by rw [HLA.out]; exact size75) HO.out ?_)
    | fail)
  obtain ⟨bu, hbu⟩ : ∃ b, w1.heap.size = b := ⟨_, rfl⟩
  obtain ⟨bs, hbs⟩ : ∃ b, w2.heap.size = b := ⟨_, rfl⟩
  have HSB : Hid (SB w ((w2.alloc (.cells #[.int .u8 0, .int .u8 0, .int .u8 0, .int .u8 0, .int .u8 0, .int .u8 0, .int .u8 0, .int .u8 0, .int .u8 0, .int .u8 0, .int .u8 0, .int .u8 0, .int .u8 0, .int .u8 0, .int .u8 0, .int .u8 0, .int .u8 0, .int .u8 0, .int .u8 0, .int .u8 0, .int .u8 0, .int .u8 0, .int .u8 0, .int .u8 0, .int .u8 0, .int .u8 0, .int .u8 0, .int .u8 0, .int .u8 0, .int .u8 0, .int .u8 0, .int .u8 0, .int .u8 0, .int .u8 0, .int .u8 0, .int .u8 0, .int .u8 0, .int .u8 0, .int .u8 0, .int .u8 0, .int .u8 0, .int .u8 0, .int .u8 0, .int .u8 0, .int .u8 0, .int .u8 0, .int .u8 0, .int .u8 0, .int .u8 0, .int .u8 0, .int .u8 0, .int .u8 0, .int .u8 0, .int .u8 0, .int .u8 0, .int .u8 0, .int .u8 0, .int .u8 0, .int .u8 0, .int .u8 0, .int .u8 0, .int .u8 0, .int .u8 0, .int .u8 0] 72)).setCells w2.heap.size 0 C) g h w.heap.size w1.heap.size w2.heap.size (fnz (sbU h si so zs 0)) (fnz (sbS h si so zs 0))) := by
    have h2 := HB2.out.2.1
    have h3 := HW1.out.2.2.1
    have h4 := HGW.out
    have hbA : Below w2.heap.size w2 (w2.alloc (.cells #[.int .u8 0, .int .u8 0, .int .u8 0, .int .u8 0, .int .u8 0, .int .u8 0, .int .u8 0, .int .u8 0, .int .u8 0, .int .u8 0, .int .u8 0, .int .u8 0, .int .u8 0, .int .u8 0, .int .u8 0, .int .u8 0, .int .u8 0, .int .u8 0, .int .u8 0, .int .u8 0, .int .u8 0, .int .u8 0, .int .u8 0, .int .u8 0, .int .u8 0, .int .u8 0, .int .u8 0, .int .u8 0, .int .u8 0, .int .u8 0, .int .u8 0, .int .u8 0, .int .u8 0, .int .u8 0, .int .u8 0, .int .u8 0, .int .u8 0, .int .u8 0, .int .u8 0, .int .u8 0, .int .u8 0, .int .u8 0, .int .u8 0, .int .u8 0, .int .u8 0, .int .u8 0, .int .u8 0, .int .u8 0, .int .u8 0, .int .u8 0, .int .u8 0, .int .u8 0, .int .u8 0, .int .u8 0, .int .u8 0, .int .u8 0, .int .u8 0, .int .u8 0, .int .u8 0, .int .u8 0, .int .u8 0, .int .u8 0, .int .u8 0, .int .u8 0] 72)) := (Below.refl _ _).alloc (Nat.le_refl _) _
    have hbB : Below w1.heap.size w1 (w2.alloc (.cells #[.int .u8 0, .int .u8 0, .int .u8 0, .int .u8 0, .int .u8 0, .int .u8 0, .int .u8 0, .int .u8 0, .int .u8 0, .int .u8 0, .int .u8 0, .int .u8 0, .int .u8 0, .int .u8 0, .int .u8 0, .int .u8 0, .int .u8 0, .int .u8 0, .int .u8 0, .int .u8 0, .int .u8 0, .int .u8 0, .int .u8 0, .int .u8 0, .int .u8 0, .int .u8 0, .int .u8 0, .int .u8 0, .int .u8 0, .int .u8 0, .int .u8 0, .int .u8 0, .int .u8 0, .int .u8 0, .int .u8 0, .int .u8 0, .int .u8 0, .int .u8 0, .int .u8 0, .int .u8 0, .int .u8 0, .int .u8 0, .int .u8 0, .int .u8 0, .int .u8 0, .int .u8 0, .int .u8 0, .int .u8 0, .int .u8 0, .int .u8 0, .int .u8 0, .int .u8 0, .int .u8 0, .int .u8 0, .int .u8 0, .int .u8 0, .int .u8 0, .int .u8 0, .int .u8 0, .int .u8 0, .int .u8 0, .int .u8 0, .int .u8 0, .int .u8 0] 72)) := HB2.out.1.trans (hbA.mono (by omega))
    have hbC : Below w2.heap.size w2 ((w2.alloc (.cells #[.int .u8 0, .int .u8 0, .int .u8 0, .int .u8 0, .int .u8 0, .int .u8 0, .int .u8 0, .int .u8 0, .int .u8 0, .int .u8 0, .int .u8 0, .int .u8 0, .int .u8 0, .int .u8 0, .int .u8 0, .int .u8 0, .int .u8 0, .int .u8 0, .int .u8 0, .int .u8 0, .int .u8 0, .int .u8 0, .int .u8 0, .int .u8 0, .int .u8 0, .int .u8 0, .int .u8 0, .int .u8 0, .int .u8 0, .int .u8 0, .int .u8 0, .int .u8 0, .int .u8 0, .int .u8 0, .int .u8 0, .int .u8 0, .int .u8 0, .int .u8 0, .int .u8 0, .int .u8 0, .int .u8 0, .int .u8 0, .int .u8 0, .int .u8 0, .int .u8 0, .int .u8 0, .int .u8 0, .int .u8 0, .int .u8 0, .int .u8 0, .int .u8 0, .int .u8 0, .int .u8 0, .int .u8 0, .int .u8 0, .int .u8 0, .int .u8 0, .int .u8 0, .int .u8 0, .int .u8 0, .int .u8 0, .int .u8 0, .int .u8 0, .int .u8 0] 72)).setCells w2.heap.size 0 C) := below_setCells _ (Nat.le_refl _) _ _ _ hbA
    have hbD : Below w1.heap.size w1 ((w2.alloc (.cells #[.int .u8 0, .int .u8 0, .int .u8 0, .int .u8 0, .int .u8 0, .int .u8 0, .int .u8 0, .int .u8 0, .int .u8 0, .int .u8 0, .int .u8 0, .int .u8 0, .int .u8 0, .int .u8 0, .int .u8 0, .int .u8 0, .int .u8 0, .int .u8 0, .int .u8 0, .int .u8 0, .int .u8 0, .int .u8 0, .int .u8 0, .int .u8 0, .int .u8 0, .int .u8 0, .int .u8 0, .int .u8 0, .int .u8 0, .int .u8 0, .int .u8 0, .int .u8 0, .int .u8 0, .int .u8 0, .int .u8 0, .int .u8 0, .int .u8 0, .int .u8 0, .int .u8 0, .int .u8 0, .int .u8 0, .int .u8 0, .int .u8 0, .int .u8 0, .int .u8 0, .int .u8 0, .int .u8 0, .int .u8 0, .int .u8 0, .int .u8 0, .int .u8 0, .int .u8 0, .int .u8 0, .int .u8 0, .int .u8 0, .int .u8 0, .int .u8 0, .int .u8 0, .int .u8 0, .int .u8 0, .int .u8 0, .int .u8 0, .int .u8 0, .int .u8 0] 72)).setCells w2.heap.size 0 C) := HB2.out.1.trans (hbC.mono (by omega))
    obtain ⟨s, half, fed, hk⟩ := HW1.out.2.2.2
    have th : ∀ b, b < w2.heap.size → w2.there b 0 64 → ((w2.alloc (.cells #[.int .u8 0, .int .u8 0, .int .u8 0, .int .u8 0, .int .u8 0, .int .u8 0, .int .u8 0, .int .u8 0, .int .u8 0, .int .u8 0, .int .u8 0, .int .u8 0, .int .u8 0, .int .u8 0, .int .u8 0, .int .u8 0, .int .u8 0, .int .u8 0, .int .u8 0, .int .u8 0, .int .u8 0, .int .u8 0, .int .u8 0, .int .u8 0, .int .u8 0, .int .u8 0, .int .u8 0, .int .u8 0, .int .u8 0, .int .u8 0, .int .u8 0, .int .u8 0, .int .u8 0, .int .u8 0, .int .u8 0, .int .u8 0, .int .u8 0, .int .u8 0, .int .u8 0, .int .u8 0, .int .u8 0, .int .u8 0, .int .u8 0, .int .u8 0, .int .u8 0, .int .u8 0, .int .u8 0, .int .u8 0, .int .u8 0, .int .u8 0, .int .u8 0, .int .u8 0, .int .u8 0, .int .u8 0, .int .u8 0, .int .u8 0, .int .u8 0, .int .u8 0, .int .u8 0, .int .u8 0, .int .u8 0, .int .u8 0, .int .u8 0, .int .u8 0] 72)).setCells w2.heap.size 0 C).there b 0 64 := fun b hb ht j hj => by
      rw [hbC.cell (p := ⟨b, 0 + j, none⟩) hb, hbC.frozen (p := ⟨b, 0 + j, none⟩) hb]
      exact ht j hj
    have th1 : w2.there w.heap.size 0 64 := fun j hj => by
      rw [HB2.out.1.cell (p := ⟨w.heap.size, 0 + j, none⟩) (by show w.heap.size < _; omega), HB2.out.1.frozen (p := ⟨w.heap.size, 0 + j, none⟩) (by show w.heap.size < _; omega)]
      exact HW1.out.2.1 j hj
    refine ⟨HW1.out.1.below hbD h4, ⟨s, half, fed, hk.below hbD⟩, fun i hi => ?_, fun i hi => ?_, th _ (by omega) HB2.out.2.2, World.there_setCells HX2.out _ _ _, th _ (by omega) th1, h4, Nat.le_refl _, by omega, by omega, by rw [size_setCells]; simp⟩
    · rw [hbC.cell (p := ⟨w1.heap.size, i, none⟩) (by show w1.heap.size < _; omega)]
      have q := HR2.out
      rw [HC.out] at q
      exact fnz_range q i (by rw [sbU_length]; exact hi)
    · have q := World.rangeAt_setCells_same (w2.alloc (.cells #[.int .u8 0, .int .u8 0, .int .u8 0, .int .u8 0, .int .u8 0, .int .u8 0, .int .u8 0, .int .u8 0, .int .u8 0, .int .u8 0, .int .u8 0, .int .u8 0, .int .u8 0, .int .u8 0, .int .u8 0, .int .u8 0, .int .u8 0, .int .u8 0, .int .u8 0, .int .u8 0, .int .u8 0, .int .u8 0, .int .u8 0, .int .u8 0, .int .u8 0, .int .u8 0, .int .u8 0, .int .u8 0, .int .u8 0, .int .u8 0, .int .u8 0, .int .u8 0, .int .u8 0, .int .u8 0, .int .u8 0, .int .u8 0, .int .u8 0, .int .u8 0, .int .u8 0, .int .u8 0, .int .u8 0, .int .u8 0, .int .u8 0, .int .u8 0, .int .u8 0, .int .u8 0, .int .u8 0, .int .u8 0, .int .u8 0, .int .u8 0, .int .u8 0, .int .u8 0, .int .u8 0, .int .u8 0, .int .u8 0, .int .u8 0, .int .u8 0, .int .u8 0, .int .u8 0, .int .u8 0, .int .u8 0, .int .u8 0, .int .u8 0, .int .u8 0] 72)) w2.heap.size 0 C (by rw [HL.out]; exact HX2.out)
      rw [HC.out] at q ⊢
      exact fnz_range q i (by rw [sbU_length]; exact hi)
  generalize (w2.alloc (.cells #[.int .u8 0, .int .u8 0, .int .u8 0, .int .u8 0, .int .u8 0, .int .u8 0, .int .u8 0, .int .u8 0, .int .u8 0, .int .u8 0, .int .u8 0, .int .u8 0, .int .u8 0, .int .u8 0, .int .u8 0, .int .u8 0, .int .u8 0, .int .u8 0, .int .u8 0, .int .u8 0, .int .u8 0, .int .u8 0, .int .u8 0, .int .u8 0, .int .u8 0, .int .u8 0, .int .u8 0, .int .u8 0, .int .u8 0, .int .u8 0, .int .u8 0, .int .u8 0, .int .u8 0, .int .u8 0, .int .u8 0, .int .u8 0, .int .u8 0, .int .u8 0, .int .u8 0, .int .u8 0, .int .u8 0, .int .u8 0, .int .u8 0, .int .u8 0, .int .u8 0, .int .u8 0, .int .u8 0, .int .u8 0, .int .u8 0, .int .u8 0, .int .u8 0, .int .u8 0, .int .u8 0, .int .u8 0, .int .u8 0, .int .u8 0, .int .u8 0, .int .u8 0, .int .u8 0, .int .u8 0, .int .u8 0, .int .u8 0, .int .u8 0, .int .u8 0] 72)).setCells w2.heap.size 0 C = w3 at HSB ⊢
  rw [hbu, hbs] at HSB
  rw [hbu, hbs]
  clear HX HX2 HR2 HB2 HW1 hbu hbs
  clear w2
  clear w1
  go_wp2
  go_loopw [14] (fun vi wr => ∃ q : Nat, q ≤ t1 ∧ vi = .int .i64 (q : Nat) ∧ Hid (SB w wr g h w.heap.size bu bs (fnz (sbU h si so zs q)) (fnz (sbS h si so zs q)))) (fun vi _ => t1 - (intOf vi).toNat)
  case atStart => exact ⟨0, Nat.zero_le _, rfl, HSB⟩
  case round =>
    obtain ⟨q, hq, rfl, HB⟩ := hrel
    clear HSB HL HLA HO HC
    by_cases hlt : (q : Int) < (t1 : Nat)
    · have HMA : Hid (MacAt wr g si so) := hm.out.2.touch HB.out.touch
      obtain ⟨s1, h1, f1, hk1⟩ := HB.out.mac
      have HA : Hid (Calls Tryd.prog 51 #[.pointer (some ⟨g, 0, none⟩), .agg si.cells.toArray] wr fun e w' => e = .returned (.tuple #[]) ∧ Touch wr w' g 0 139 ∧ TK w' g 0 h (wdOf h) si (fun _ => 0) (bsz (wdOf h))) := restart_any g h s1 si h1 f1 wr k hk1
      clear hk1
      go_upto_region 6 with (first
        | (refine wpList_load_mid (by rfl) 66 (.tmp 19) (by rfl) g 139 (by rfl) si.cells _ HMA.out.inner Tryd.underlying66 rfl size68 ?_)
        | (go_at_call 51; refine HA.out.mono ?_; rintro e3 w3' ⟨rfl, ht3, hk3⟩)
        | fail)
      have HB3 : Hid (SB w w3' g h w.heap.size bu bs (fnz (sbU h si so zs q)) (fnz (sbS h si so zs q))) := HB.out.touched ht3 ⟨_, _, _, hk3⟩
      have HREP3 : Hid (Rep w3' g 0 h (wdOf h) si (bsz (wdOf h)) []) := rep_nil hk3 (Nat.mod_self _)
      obtain ⟨n, HN⟩ : ∃ n : Nat, Hid (n = szOf h) := ⟨_, (show _ = _ from rfl)⟩
      have hn : (n : Int) ≤ 64 := by rw [HN.out]; have := szOf_le k.out; omega
      have hn0 : (0 : Int) ≤ (n : Int) := by omega
      have c0 : w3'.cell? ⟨g, 0, none⟩ = some (.int .i64 h) := hk3.hash
      have HADD : Hid (∀ u, Sm w3' u → Calls Tryd.prog 38 #[.pointer (some ⟨g, 0, none⟩), .slice (some ⟨bu, 0, none⟩) n 64] u fun e w' => e = .returned (.tuple #[]) ∧ Touch w3' w' g 0 139 ∧ Rep w' g 0 h (wdOf h) si (bsz (wdOf h)) ((sbU h si so zs q).take n)) := by
        intro u hsm
        have hrg : w3'.rangeAt bu 0 (cellsU8 (sbU h si so zs q)) := range_fnz (fun i hi => HB3.out.u i (by rw [sbU_length] at hi; exact hi))
        have hv := hsm.view (view_cells hrg rfl (sbU_length h si so zs q) (show n ≤ 64 by omega))
        have hr : Rep u g 0 h (wdOf h) si (bsz (wdOf h)) [] := by obtain ⟨half, hk, q1, q2⟩ := HREP3.out; exact ⟨half, hk.sm hsm, q1, q2⟩
        refine (add_rep (wdOf h) g 0 h si (bsz (wdOf h)) [] ((sbU h si so zs q).take n) _ u k.out.block hr hv (fun b' off l c' e => .inl (by injection e with e1 e2 e3; injection e1 with e1; injection e1 with e4 e5; have := HB3.out.lt; omega)) (hsm.tables (hT.out.touch HB3.out.touch hg)) hg (by have := HBS.out; simp; omega)).mono ?_
        rintro e w' ⟨rfl, ht, hr'⟩
        exact ⟨rfl, (hsm.touch g 0 139).trans ht, hr'⟩
      clear hk3 ht3 HREP3 HA HMA
      go_region_held3 (fun u => u.cell? ⟨g, 0, none⟩ = some (.int .i64 h)) (first | exact c0 | exact hS6 | go_keep) (first
        | (go_at_call 46; refine (size_known k.out _).mono ?_; rintro e5 w5 ⟨rfl, hw5⟩; obtain rfl := hw5.symm; rw [← HN.out])
        | (go_at_call 38; refine (HADD.out w3'.drew (Sm.refl w3').drew).mono ?_; rintro e6 w6 ⟨rfl, ht6, hr6⟩; have hS6 : w6.cell? ⟨g, 0, none⟩ = some (.int .i64 h) := hr6.elim (fun _ q => q.1.hash)))
      have HB6 : Hid (SB w w6 g h w.heap.size bu bs (fnz (sbU h si so zs q)) (fnz (sbS h si so zs q))) := HB3.out.touched ht6 (hr6.elim fun _ q => ⟨_, _, _, q.1⟩)
      have HM6 : Hid (MRep w6 g h si so ((sbU h si so zs q).take n)) := ⟨hr6, hm.out.2.touch HB6.out.touch⟩
      have HT6 : Hid (Tables w6) := hT.out.touch HB6.out.touch hg
      have HF6 : Hid (((sbU h si so zs q).take n).length ≤ 1152921504606000000) := by show _ ≤ _; simp; omega
      clear ht6 hr6 hS6 HADD c0 HB3 HB
      go_wp2_with (go_at_call 57; refine (finishCode g h si so _ w6 k HM6 HT6 hg HF6).mono ?_)
      rintro e7 w7 ⟨rfl, ht7, hk7⟩
      obtain ⟨D, HD⟩ : ∃ D : List Value, Hid (D = cellsU8 (sbU h si so zs (q + 1))) := ⟨_, rfl⟩
      have hDD : spellCells (wsz (wdOf h)) (macE h si so ((sbU h si so zs q).take n)) = D := by rw [HD.out, spellCells_eq, HN.out]; rfl
      rw [hDD]
      have HDL : Hid (D.length = 64) := by show D.length = 64; rw [HD.out, cellsU8_length, sbU_length]
      have HDA : Hid (D.toArray.size = 64) := by show D.toArray.size = 64; simpa using HDL.out
      have HDO : Hid (D.toArray.all (·.oneCell') = true) := all_oneCell_toArray (by rw [HD.out]; exact cellsU8_one _)
      have HB7 : Hid (SB w w7 g h w.heap.size bu bs (fnz (sbU h si so zs q)) (fnz (sbS h si so zs q))) := HB6.out.touched ht7 hk7
      have HB8 : Hid (SB w (w7.setCells bu 0 D) g h w.heap.size bu bs (fnz (sbU h si so zs (q + 1))) (fnz (sbS h si so zs q))) := by rw [HD.out]; exact HB7.out.setU _ (sbU_length h si so zs (q + 1))
      have HR8 : Hid ((w7.setCells bu 0 D).rangeAt bu 0 D) := by
        show World.rangeAt _ _ _ _
        have q1 := HB8.out.u
        rw [HD.out] at q1 ⊢
        exact range_fnz (fun i hi => q1 i (by rw [sbU_length] at hi; exact hi))
      clear ht7 hk7 hDD HM6 HT6 HF6 HB6
      go_upto_region 8 with (first
        | (refine wpList_store_mid (by rfl) 72 (.tmp 5) (.tmp 34) (by rfl) bu 0 D.toArray (by rfl) (by rfl) (by rw [HDA.out]; exact HB7.out.ut) (by rw [HDA.out]; exact size75) HDO.out ?_)
        | fail)
      generalize w7.setCells bu 0 D = w8 at HB8 HR8 ⊢
      go_wp2_with (first
        | (refine wpList_load_mid (by rfl) 72 (.tmp 5) (by rfl) bu 0 (by rfl) D _ HR8.out Tryd.underlying72 rfl (by rw [HDL.out]; exact size75) ?_)
        | fail)
      go_loopw [36] (fun vj wx => ∃ j : Nat, j ≤ 64 ∧ vj = .int .i64 (j : Nat) ∧ Hid (SB w wx g h w.heap.size bu bs (fnz (sbU h si so zs (q + 1))) (mixF (fnz (sbS h si so zs q)) (fnz (sbU h si so zs (q + 1))) j))) (fun vj _ => 64 - (intOf vj).toNat)
      case atStart => exact ⟨0, by omega, rfl, HB8.out.congr (fun _ _ => rfl) (fun i _ => by simp [mixF])⟩
      case round =>
        obtain ⟨j, hj, rfl, HX⟩ := hrel
        clear HB8 HR8 HB7
        by_cases hjl : (j : Int) < 64
        · obtain ⟨x, hx⟩ : ∃ x, x = fnz (sbU h si so zs (q + 1)) j := ⟨_, rfl⟩
          obtain ⟨y, hy⟩ : ∃ y, y = fnz (sbS h si so zs q) j := ⟨_, rfl⟩
          have g0 : D[j]? = some (.int .u8 x) := by rw [HD.out, hx]; exact fnz_at (by rw [sbU_length]; omega)
          have g1 : ∀ u, Sem.run Tryd.prog (Instr.index 72 (.agg D.toArray) (.int .i64 (j : Nat))) u = .ok (.int .u8 x) u := fun u => run_index75 D j x u (by omega) g0
          have g2 : wr.cell? ⟨bs, j, none⟩ = some (.int .u8 y) := by
            rw [HX.out.s j (by omega), hy]
            simp [mixF]
          have g3 : wr.frozen? ⟨bs, j, none⟩ = false := by have := (HX.out.st j (by omega)).2; simpa using this
          have HN' : Hid (SB w (wr.setCell ⟨bs, j, none⟩ (.int .u8 (bits .xor .u8 y x))) g h w.heap.size bu bs (fnz (sbU h si so zs (q + 1))) (mixF (fnz (sbS h si so zs q)) (fnz (sbU h si so zs (q + 1))) (j + 1))) := by
            refine HX.out.setS j (by omega) _ _ (by rw [mixF, if_pos (by omega), hx, hy]) (fun i hi hne => ?_)
            unfold mixF
            by_cases h2 : i < j
            · rw [if_pos (by omega), if_pos h2]
            · rw [if_neg (by omega), if_neg h2]
          clear hx hy HX g0
          go_wp2
          go_roundw
          case rel => exact ⟨j + 1, by omega, by go_num, HN'⟩
          case measure => simp [intOf]; omega
        · obtain rfl : j = 64 := by omega
          have HY : Hid (SB w wr g h w.heap.size bu bs (fnz (sbU h si so zs (q + 1))) (fnz (sbS h si so zs (q + 1)))) := HX.out.congr (fun _ _ => rfl) (fun i hi => by rw [sbS, fnz_xorL i (by rw [sbS_length]; exact hi) (by rw [sbU_length]; exact hi), mixF, if_pos hi])
          clear HX
          go_wp2
          go_roundw
          case rel => exact ⟨q + 1, by omega, by go_num, HY⟩
          case measure => simp [intOf]; omega
    · obtain rfl : q = t1 := by omega
      obtain ⟨D, HD⟩ : ∃ D : List Value, Hid (D = cellsU8 (sbS h si so zs q)) := ⟨_, rfl⟩
      have HDL : Hid (D.length = 64) := by show D.length = 64; rw [HD.out, cellsU8_length, sbS_length]
      have HDA : Hid (D.toArray.size = 64) := by show D.toArray.size = 64; simpa using HDL.out
      have HDO : Hid (D.toArray.all (·.oneCell') = true) := all_oneCell_toArray (by rw [HD.out]; exact cellsU8_one _)
      have HR : Hid (wr.rangeAt bs 0 D) := by
        show World.rangeAt _ _ _ _
        rw [HD.out]
        exact range_fnz (fun i hi => HB.out.s i (by rw [sbS_length] at hi; exact hi))
      go_wp2_with (first
        | (refine wpList_load_mid (by rfl) 72 (.tmp 6) (by rfl) bs 0 (by rfl) D _ HR.out Tryd.underlying72 rfl (by rw [HDL.out]; exact size75) ?_)
        | (refine wpList_store_mid (by rfl) 72 (.tmp 4) (.tmp 48) (by rfl) w.heap.size 0 D.toArray (by rfl) (by rfl) (by rw [HDA.out]; exact HB.out.rt) (by rw [HDA.out]; exact size75) HDO.out ?_)
        | fail)
      have hl := run_loadVar_mid (P := Tryd.prog) (wr.setCells w.heap.size 0 D) w.heap.size 0 72 D _ (World.rangeAt_setCells_same wr w.heap.size 0 D (by rw [HDL.out]; exact HB.out.rt)) Tryd.underlying72 rfl (by rw [HDL.out]; exact size75)
      have hQ : Touch w (wr.setCells w.heap.size 0 D) g 0 139 ∧ ∃ s half fed, TK (wr.setCells w.heap.size 0 D) g 0 h (wdOf h) s half fed := by
        obtain ⟨s, half, fed, hk⟩ := HB.out.mac
        exact ⟨touch_new HB.out.touch (Nat.le_refl _) D 0 HGW.out, s, half, fed, hk.newer (by have := HGW.out; omega) D 0⟩
      refine bodyPost_ret (v := .agg D.toArray) ?_ rfl ⟨by rw [HD.out], hQ⟩
      rw [results_cell1 Tryd.results39]
      simp [Act.put, asAddr, hl]
end Go.Proofs.YtioggmjocelolacDoor
