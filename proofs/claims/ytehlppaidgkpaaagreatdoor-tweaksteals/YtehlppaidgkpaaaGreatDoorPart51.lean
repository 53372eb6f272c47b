import Derived.Test.YtehlppaidgkpaaaGreatDoorNvx
import Derived.Test.YtehlppaidgkpaaaGreatDoorPart25
import Derived.Test.YtehlppaidgkpaaaGreatDoorNwx
import Derived.Test.YtehlppaidgkpaaaGreatDoorPart43
import Derived.Test.YtehlppaidgkpaaaGreatDoorPart48
import Derived.Test.YtehlppaidgkpaaaGreatDoorPart39
import Derived.Test.YtehlppaidgkpaaaGreatDoorPart45
import Derived.Test.YtehlppaidgkpaaaGreatDoorPart42
namespace Go.Proofs.YtehlppaidgkpaaaGreatDoor
open Go.RowKit
set_option linter.unusedVariables false
set_option linter.unusedSimpArgs false
theorem sp_first : ∀ i : Fin 3, ∀ k : Fin 17, ∀ j : Fin 52, j.1 < 1 + 17 * i.1 + k.1 → spN j.1 ≠ sxN i.1 k.1 := by decide +kernel
/-- New of the mode k with a key of 16 + 8 i bytes, given what its begin and its builder do. -/
theorem newV (i k : Nat) (hi : i < 3) (hk : k < 17) (v : Value) (zs : List Int) (w : World) (hv : View w v zs) (hb : AllBytes zs) (hl : zs.length = mK k * (16 + 8 * i) + mM k) (hP : Pow w) (hrc : RC w) (Φ : World → Nat → Value → Value → Prop) (Ψ : World → Nat → Value → Value → Value → Prop) (hΦ : Hid (∀ u u' s o x, Oc u u' → Φ u s o x → Φ u' s o x)) (hΨ : Hid (∀ u u' sh a b c, Oc u u' → Ψ u sh a b c → Ψ u' sh a b c))
    (HNB : Hid (mB k = .nilFunc → ∀ u sh, Φ u sh (.slice none 0 0) .nilFunc))
    (HBG : Hid (∀ bg, mB k = fV bg → ∀ B sh kv mp u, Below w.heap.size w u → w.heap.size ≤ B → B ≤ u.heap.size → ShA B u sh (sxN i k) (mS k) (16 + 8 * i) zs kv mp (.slice none 0 0) → Calls Tryz.prog bg #[.pointer (some ⟨sh, 0, none⟩)] u fun e u' => Hid (BegPV B sh (sxN i k) (mS k) (16 + 8 * i) zs kv mp Φ u e u')))
    (HBU : Hid (∀ fv B sh kv mp ov u, (fv = .nilFunc ∨ ∃ fn xs ys, fv = .func (.func fn) xs ys) → Φ u sh ov fv → Below w.heap.size w u → w.heap.size ≤ B → B ≤ u.heap.size → ShA B u sh (sxN i k) (mS k) (16 + 8 * i) zs kv mp ov → (∃ n os, n ≤ 1 ∧ u.ownsRow B 71 1 ov n os) → Calls Tryz.prog (mU k) #[.pointer (some ⟨sh, 0, none⟩), fv] u fun e u' => Hid (BldPW B sh (sxN i k) (mS k) (16 + 8 * i) zs kv mp Ψ fv u e u'))) :
    Calls Tryz.prog 26 #[.string (sxN i k), v] w fun e w' => NewPW w (sxN i k) (mS k) (16 + 8 * i) zs Ψ e w' := by
  have q8 : 16 + 8 * i = 4 * (4 + 2 * i) := by omega
  have hpos : 1 < w.heap.size := World.block_lt_of_cell? w ⟨1, 0, none⟩ (hrc 0 (by decide))
  have hm1 := mK_le k
  have hm2 := mM_le k
  have hx : mK k * (16 + 8 * i) ≤ 2 * 32 := Nat.mul_le_mul hm1 (by omega)
  have hk1 : 1 ≤ mK k := by
    have q : ∀ k, k < 17 → 1 ≤ mK k := by decide
    exact q k hk
  have hx2 : 16 + 8 * i ≤ mK k * (16 + 8 * i) := Nat.le_mul_of_pos_left _ hk1
  have hf : ∀ j, j < 1 + 17 * i + k → spN j ≠ sxN i k := fun j hj => sp_first ⟨i, hi⟩ ⟨k, hk⟩ ⟨j, by omega⟩ hj
  refine new_coreV (sxN i k) (nmB k) (16 + 8 * i) (mK k) (mM k) (mS k) (mU k) (mB k) v zs w Φ Ψ hΦ hΨ ?_ hv hm1 (by omega) hm2 hl ?_ ?_ (bld_enter k hk) ?_ HNB HBG HBU
  · rcases mB_beg k hk with q | ⟨bg, _, q⟩
    · exact .inl q
    · exact .inr ⟨bg, q⟩
  · have q := find_at (sxN i k) (1 + 17 * i + k) w hP (by omega) (spN_lit i k hk) hf
    rw [sxF_lit i k hk] at q
    exact q
  · intro u hu
    have q := share_ok (sxN i k) (nmB k) (4 + 2 * i) (mK k) (mM k) (mS k) (mB k) (fV (mU k)) v zs u (mB_one k) rfl (hv.below hu) hb (by omega) (by omega) (by omega) (hrc.belowB hu hpos) (Nat.lt_of_lt_of_le hpos hu.size)
    rw [← q8] at q
    exact q.mono fun e u' h => h
  · intro bg hbg
    rcases mB_beg k hk with q | ⟨bg', hb', q⟩
    · rw [q] at hbg; cases hbg
    · rw [q] at hbg
      obtain rfl : bg' = bg := by injection hbg with e; injection e
      exact beg_enter bg' hb'
set_option maxHeartbeats 800000 in
set_option maxRecDepth 100000 in
/-- newXTS, with what it leaves as it was. -/
theorem buildXTS3_ok (B sh : Nat) (S : ByteArray) (st nk : Nat) (zs : List Int) (kv : Value) (mp : Option Addr) (ov : Value) (fn : Nat) (xs ys : Array Value) (w : World) (h : ShA B w sh S st (4 * nk) zs kv mp ov) (hB : B ≤ w.heap.size) (hfew : ∃ n os, n ≤ 1 ∧ w.ownsRow B 71 1 ov n os)
    (hnk : nk = 4 ∨ nk = 6 ∨ nk = 8) (hl : zs.length = 2 * (4 * nk)) (hb : AllBytes zs) (hrc : RC w) (hpos : 1 < w.heap.size) :
    Calls Tryz.prog 158 #[.pointer (some ⟨sh, 0, none⟩), .func (.func fn) xs ys] w fun e w' => Hid (∃ go ov', e = .returned (.tuple #[bV 201 [.pointer (some ⟨sh, 0, none⟩), .func (.func fn) xs ys, .pointer (some ⟨go, 0, none⟩)], bV 202 [.pointer (some ⟨sh, 0, none⟩), .func (.func fn) xs ys, .pointer (some ⟨go, 0, none⟩)]]) ∧ w.heap.size ≤ go ∧ KeyAt w' go (nk + 6) (schedK nk (nat8 (zs.drop (4 * nk)))) ∧ (∃ R : Array Value, w'.heap[go]? = some (.cells R 135 (0, 0))) ∧ ShA B w' sh S st (4 * nk) zs kv mp ov' ∧ Fs B sh w w' ∧ ∀ b, b < w.heap.size → b ≠ sh → ov.ownBlock ≠ some b → w'.heap[b]? = w.heap[b]?) := by
  have HR : Hid (Calls Tryz.prog 192 #[.pointer (some ⟨sh, 0, none⟩)] w fun e w' => Hid (∃ y d, e = .returned (.slice y (zs.length - 4 * nk) d) ∧ View w' (.slice y (zs.length - 4 * nk) d) (zs.drop (4 * nk)) ∧ Below w.heap.size w w')) := rest_ok B sh S st (4 * nk) zs kv mp ov w h (by omega)
  have hb' : AllBytes (zs.drop (4 * nk)) := fun i => by
    rw [List.getD_eq_getElem?_getD, List.getElem?_drop, ← List.getD_eq_getElem?_getD]; exact hb _
  have HK : Hid (∀ u v, Below w.heap.size w u → View u v (zs.drop (4 * nk)) → Calls Tryz.prog 186 #[.pointer (some ⟨sh, 0, none⟩), v] u fun e w' => Hid (∃ g ov', e = .returned (.pointer (some ⟨g, 0, none⟩)) ∧ u.heap.size ≤ g ∧ KeyAt w' g (nk + 6) (schedK nk (nat8 (zs.drop (4 * nk)))) ∧ (∃ R : Array Value, w'.heap[g]? = some (.cells R 135 (0, 0))) ∧ ShA B w' sh S st (4 * nk) zs kv mp ov' ∧ (∀ n os, u.ownsRow B 71 1 ov n os → ∃ os', w'.ownsRow B 71 1 ov' (n + 1) os') ∧ Fs B sh u w' ∧ ∀ b, b < u.heap.size → b ≠ sh → ov.ownBlock ≠ some b → w'.heap[b]? = u.heap[b]?)) := fun u v hu hv => by
    obtain ⟨n0, os0, hn0, ho0⟩ := hfew
    exact schedule2_ok B sh S st (4 * nk) zs kv mp ov v (zs.drop (4 * nk)) nk u (h.below hu) (Nat.le_trans hB hu.size) ⟨n0, os0, by omega, ownsRow_below ho0 hu⟩ hnk (by rw [List.length_drop]; omega) hv hb' (fun i hi => (hu.cell (p := ⟨1, i, none⟩) hpos).trans (hrc i hi)) (Nat.lt_of_lt_of_le hpos hu.size)
  have HB0 : Hid (B ≤ w.heap.size) := hB
  clear h hfew hl hb hrc hpos hB hb'
  go_enter Tryz.func158, Tryz.ntmps158
  go_upto_region 2 with (first
    | (go_at_call 192; refine HR.out.mono ?_; intro e1 w1 hh; obtain ⟨y, d, rfl, hv1, hb1⟩ := hh.out; have HV1 : Hid (View w1 (.slice y (zs.length - 4 * nk) d) (zs.drop (4 * nk)) ∧ Below w.heap.size w w1) := ⟨hv1, hb1⟩; clear hh hv1 hb1)
    | (go_at_call 186; refine (HK.out _ _ HV1.out.2 HV1.out.1).mono ?_; intro e2 w2 hh; obtain ⟨go, ov', rfl, hg2, hK2, hR2, hS2, hO2, hF2, hk2⟩ := hh.out; have HS2 : Hid (w1.heap.size ≤ go ∧ KeyAt w2 go (nk + 6) (schedK nk (nat8 (zs.drop (4 * nk)))) ∧ ShA B w2 sh S st (4 * nk) zs kv mp ov' ∧ Fs B sh w1 w2 ∧ (∃ R : Array Value, w2.heap[go]? = some (.cells R 135 (0, 0))) ∧ ∀ b, b < w1.heap.size → b ≠ sh → ov.ownBlock ≠ some b → w2.heap[b]? = w1.heap[b]?) := ⟨hg2, hK2, hS2, hF2, hR2, hk2⟩; clear hh hg2 hK2 hR2 hS2 hO2 hF2 hk2))
  obtain ⟨w3, hw3⟩ : ∃ w3, w3 = w2.alloc (.cells #[.pointer (some ⟨sh, 0, none⟩), .func (.func fn) xs ys, .pointer (some ⟨go, 0, none⟩)] 252) := ⟨_, rfl⟩
  have HW : Hid (Bx w3 w2.heap.size 252 [.pointer (some ⟨sh, 0, none⟩), .func (.func fn) xs ys, .pointer (some ⟨go, 0, none⟩)] ∧ Below w2.heap.size w2 w3) := by rw [hw3]; exact ⟨Bx.new w2 252 _, (Below.refl _ _).alloc (Nat.le_refl _) _⟩
  rw [← hw3]
  clear hw3
  have d0 : w3.cell? ⟨w2.heap.size, 0, none⟩ = some (.pointer (some ⟨sh, 0, none⟩)) := HW.out.1.cell 0 _ rfl
  have d1 : w3.cell? ⟨w2.heap.size, 1, none⟩ = some (.func (.func fn) xs ys) := HW.out.1.cell 1 _ rfl
  have d2 : w3.cell? ⟨w2.heap.size, 2, none⟩ = some (.pointer (some ⟨go, 0, none⟩)) := HW.out.1.cell 2 _ rfl
  go_region
  all_goals go_wp2
  all_goals go_ret2
  all_goals (
    have hb := HW.out.2.drew
    exact ⟨go, ov', rfl, Nat.le_trans HV1.out.2.size HS2.out.1, HS2.out.2.1.sameK (hb.block go HS2.out.2.1.ciph.here) hb.size, (by obtain ⟨R, hR⟩ := HS2.out.2.2.2.2.1; exact ⟨R, (hb.block go HS2.out.2.1.ciph.here).trans hR⟩), HS2.out.2.2.1.below hb, (Fs.of_below HV1.out.2 HB0.out).trans (HS2.out.2.2.2.1.trans (Fs.of_below hb (Nat.le_trans (Nat.le_trans HB0.out HV1.out.2.size) HS2.out.2.2.2.1.bel.size))), fun b h1 h2 h3 => (hb.block b (Nat.lt_of_lt_of_le (Nat.lt_of_lt_of_le h1 HV1.out.2.size) HS2.out.2.2.2.1.bel.size)).trans ((HS2.out.2.2.2.2.2 b (Nat.lt_of_lt_of_le h1 HV1.out.2.size) h2 h3).trans (HV1.out.2.block b h1))⟩)
end Go.Proofs.YtehlppaidgkpaaaGreatDoor
namespace Go.Proofs.YtehlppaidgkpaaaGreatDoor
open Go.RowKit
set_option linter.unusedVariables false
set_option linter.unusedSimpArgs false
/-- A key stands in a block of its type. -/
def KeyT (u : World) (x : Nat × Nat × (Nat → Nat)) : Prop := KeyAt u x.1 x.2.1 x.2.2 ∧ ∃ R : Array Value, u.heap[x.1]? = some (.cells R 135 (0, 0))
theorem KeyT.keep {u u' : World} {x : Nat × Nat × (Nat → Nat)} (h : KeyT u x) (e : u'.heap[x.1]? = u.heap[x.1]?) (hs : u.heap.size ≤ u'.heap.size) : KeyT u' x := ⟨h.1.sameK e hs, by obtain ⟨R, hR⟩ := h.2; exact ⟨R, e.trans hR⟩⟩
/-- ESSIV's key. -/
def esK (zs : List Int) : Nat → Nat := schedK 8 (nat8 (Dg.sumD 256 zs))
/-- What begins a sector: the function fn with its boxes cs, under the keys LE. -/
def Bgf (A : Nat) (zs : List Int) (k : Nat) (u : World) (ov : Value) (LE : List (Nat × Nat × (Nat → Nat))) (fn : Nat) (cs : Array Value) : Prop :=
  (k ≠ 13 ∧ k ≠ 6 ∧ LE = [] ∧ fn = sbN k ∧ cs = #[]) ∨ ((k = 13 ∨ k = 6) ∧ ∃ ge bx, LE = [(ge, 14, esK zs)] ∧ fn = 187 ∧ cs = #[.pointer (some ⟨bx, 0, none⟩)] ∧ A ≤ ge ∧ A ≤ bx ∧ KeyT u (ge, 14, esK zs) ∧ Bx u bx 71 [.pointer (some ⟨ge, 0, none⟩)] ∧ ov.ownBlock ≠ some bx)
theorem Bgf.keep {A : Nat} {zs : List Int} {k : Nat} {u u' : World} {ov : Value} {LE : List (Nat × Nat × (Nat → Nat))} {fn : Nat} {cs : Array Value} (h : Bgf A zs k u ov LE fn cs) (hs : u.heap.size ≤ u'.heap.size) (h1 : ∀ x, KeyT u x → u'.heap[x.1]? = u.heap[x.1]?) (h2 : ∀ b v, Bx u b 71 [v] → ov.ownBlock ≠ some b → u'.heap[b]? = u.heap[b]?) : Bgf A zs k u' ov LE fn cs := by
  rcases h with h | ⟨h0, ge, bx, a1, a2, a3, a4, a5, a6, a7, a8⟩
  · exact .inl h
  · exact .inr ⟨h0, ge, bx, a1, a2, a3, a4, a5, a6.keep (h1 _ a6) hs, a7.keep (h2 bx _ a7 a8), a8⟩
theorem Bgf.nov {A : Nat} {zs : List Int} {k : Nat} {u : World} {ov : Value} {LE : List (Nat × Nat × (Nat → Nat))} {fn : Nat} {cs : Array Value} (h : Bgf A zs k u ov LE fn cs) : Bgf A zs k u (.slice none 0 0) LE fn cs := by
  rcases h with h | ⟨h0, ge, bx, a1, a2, a3, a4, a5, a6, a7, a8⟩
  · exact .inl h
  · exact .inr ⟨h0, ge, bx, a1, a2, a3, a4, a5, a6, a7, by simp [Value.ownBlock]⟩
def PhB (A : Nat) (zs : List Int) (k : Nat) (u : World) (sh : Nat) (ov fv : Value) : Prop := ∃ LE fn cs shc g, fv = .func (.func fn) #[] cs ∧ Bgf A zs k u ov LE fn cs ∧ Bx u sh 115 shc ∧ shc[4]? = some (.pointer (some ⟨g, 0, none⟩)) ∧ ∀ x, x ∈ LE → g < x.1
theorem PhB.oc {A : Nat} {zs : List Int} {k : Nat} {u u' : World} {sh : Nat} {ov fv : Value} (ho : Oc u u') (h : PhB A zs k u sh ov fv) : PhB A zs k u' sh ov fv := by
  obtain ⟨hz, c, cs0, fr, hc, hk⟩ := ho
  obtain ⟨LE, fn, cs, shc, g, h1, h2, h3, h4, h5⟩ := h
  refine ⟨LE, fn, cs, shc, g, h1, h2.keep hz (fun x hx => ?_) (fun b v hb _ => hk b (type_ne hb hc (by decide))), h3.keep (hk sh (type_ne h3 hc (by decide))), h4, h5⟩
  obtain ⟨R, hR⟩ := hx.2
  exact hk _ (type_ne hR hc (by decide))
/-- What a cipher of xts seals and opens with, and its keys. -/
def PsX (A : Nat) (zs : List Int) (k nk : Nat) (u : World) (sh : Nat) (fv sv pv : Value) : Prop := ∃ LE fn cs shc g go, fv = .func (.func fn) #[] cs ∧ Bgf A zs k u (.slice none 0 0) LE fn cs ∧ Bx u sh 115 shc ∧ shc[4]? = some (.pointer (some ⟨g, 0, none⟩)) ∧ (∀ x, x ∈ LE → g < x.1 ∧ x.1 < go) ∧ g < go ∧ A ≤ go ∧ KeyT u (go, nk + 6, schedK nk (nat8 (zs.drop (4 * nk)))) ∧ sv = bV 201 [.pointer (some ⟨sh, 0, none⟩), fv, .pointer (some ⟨go, 0, none⟩)] ∧ pv = bV 202 [.pointer (some ⟨sh, 0, none⟩), fv, .pointer (some ⟨go, 0, none⟩)]
theorem PsX.oc {A : Nat} {zs : List Int} {k nk : Nat} {u u' : World} {sh : Nat} {fv sv pv : Value} (ho : Oc u u') (h : PsX A zs k nk u sh fv sv pv) : PsX A zs k nk u' sh fv sv pv := by
  obtain ⟨hz, c, cs0, fr, hc, hk⟩ := ho
  obtain ⟨LE, fn, cs, shc, g, go, h1, h2, h3, h4, h5, h6, h7, h8, h9, h10⟩ := h
  have hK : ∀ x, KeyT u x → u'.heap[x.1]? = u.heap[x.1]? := fun x hx => by
    obtain ⟨R, hR⟩ := hx.2
    exact hk _ (type_ne hR hc (by decide))
  exact ⟨LE, fn, cs, shc, g, go, h1, h2.keep hz hK (fun b v hb _ => hk b (type_ne hb hc (by decide))), h3.keep (hk sh (type_ne h3 hc (by decide))), h4, h5, h6, h7, h8.keep (hK _ h8) hz, h9, h10⟩
/-- The begins of the modes 2, 3, 4, 10, 11, 12, 15, 16 and of ESSIV. -/
theorem beg_B (A : Nat) (i k : Nat) (hi : i < 3) (hk : k = 2 ∨ k = 3 ∨ k = 4 ∨ k = 10 ∨ k = 11 ∨ k = 12 ∨ k = 15 ∨ k = 16 ∨ k = 13 ∨ k = 6) (bg : Nat) (hbg : mB k = fV bg) (S : ByteArray) (st : Nat) (zs : List Int) (B sh : Nat) (kv : Value) (mp : Option Addr) (u : World) (hA : A ≤ B) (hB : B ≤ u.heap.size) (h : ShA B u sh S st (16 + 8 * i) zs kv mp (.slice none 0 0)) (hn : zs.length ≤ 1000) (hT : Dg.Tables u) (hrc : RC u) :
    Calls Tryz.prog bg #[.pointer (some ⟨sh, 0, none⟩)] u fun e u' => Hid (BegPV B sh S st (16 + 8 * i) zs kv mp (PhB A zs k) u e u') := by
  obtain ⟨g, nk, hm, hgB, _, _, hgK, R, hR⟩ : ∃ g nk, mp = some ⟨g, 0, none⟩ ∧ B ≤ g ∧ (nk = 4 ∨ nk = 6 ∨ nk = 8) ∧ 16 + 8 * i = 4 * nk ∧ KeyAt u g (nk + 6) (schedK nk (nat8 (zs.take (16 + 8 * i)))) ∧ ∃ R : Array Value, u.heap[g]? = some (.cells R 135 (0, 0)) := by
    rcases h.main with ⟨h0, _⟩ | h
    · omega
    · exact h
  by_cases he : k = 13 ∨ k = 6
  · obtain rfl : bg = 153 := by rcases he with rfl | rfl <;> (injection hbg with e; injection e with e; exact e.symm)
    refine (beginESSIV2_ok B sh S st (16 + 8 * i) zs kv mp u h hB hn hT hrc).mono fun e u' hh => ?_
    obtain ⟨ge, bx, ov', rfl, p1, p2, p3, p4, p5, p6, p7, p8, p9⟩ := hh.out
    refine ⟨187, #[], _, ov', rfl, p6, p7, p8, [(ge, 14, esK zs)], 187, _, _, g, rfl, .inr ⟨he, ge, bx, rfl, rfl, rfl, by omega, by omega, ⟨p3, p4⟩, p5, ?_⟩, p6.box, by rw [hm]; rfl, ?_⟩
    · exact p9
    · intro x hx
      obtain rfl : x = (ge, 14, esK zs) := by simpa using hx
      have := hgK.ciph.here
      show g < ge
      omega
  · have hx : bg = sbG k := by
      rcases hk with rfl | rfl | rfl | rfl | rfl | rfl | rfl | rfl | rfl | rfl <;> first | exact absurd (by decide) he | (injection hbg with e; injection e with e; rw [← e]; rfl)
    rw [hx]
    refine (sg_ok k _ u).mono ?_
    rintro e u' ⟨rfl, hw⟩
    obtain rfl := hw.symm
    exact ⟨sbN k, #[], #[], .slice none 0 0, rfl, h, ⟨0, [], by omega, World.ownsRow_nil _ _ _ _⟩, Fs.of_below (Below.refl _ _) hB, [], sbN k, #[], _, g, rfl, .inl ⟨fun e => he (.inl e), fun e => he (.inr e), rfl, rfl, rfl⟩, h.box, by rw [hm]; rfl, fun x hx => by cases hx⟩
end Go.Proofs.YtehlppaidgkpaaaGreatDoor
namespace Go.Proofs.YtehlppaidgkpaaaGreatDoor
open Go.RowKit
set_option linter.unusedVariables false
set_option linter.unusedSimpArgs false
theorem own_not {w : World} {B : Nat} {v : Value} {n : Nat} {xs : List Value} (h : w.ownsRow B 71 1 v n xs) {b : Nat} {t : TypeId} {cs : Array Value} {fr : Nat × Nat} (hb : w.heap[b]? = some (.cells cs t fr)) (ht : t ≠ 71) : v.ownBlock ≠ some b := fun e => by
  obtain ⟨cur, hc⟩ := own_type h e
  exact type_ne hb hc ht rfl
/-- New of a cipher of xts. -/
theorem newXg (i k : Nat) (hi : i < 3) (hk : k = 10 ∨ k = 11 ∨ k = 12 ∨ k = 13) (v : Value) (zs : List Int) (w : World) (hv : View w v zs) (hb : AllBytes zs) (hl : zs.length = 2 * (16 + 8 * i)) (hP : Pow w) (hrc : RC w) (hT : Dg.Tables w) :
    Calls Tryz.prog 26 #[.string (sxN i k), v] w fun e w' => NewPW w (sxN i k) 1 (16 + 8 * i) zs (PsX w.heap.size zs k (4 + 2 * i)) e w' := by
  have q8 : 16 + 8 * i = 4 * (4 + 2 * i) := by omega
  have hpos : 1 < w.heap.size := World.block_lt_of_cell? w ⟨1, 0, none⟩ (hrc 0 (by decide))
  have e1 : mS k = 1 ∧ mK k = 2 ∧ mM k = 0 ∧ mU k = 158 ∧ k < 17 ∧ mB k ≠ .nilFunc := by rcases hk with rfl | rfl | rfl | rfl <;> exact ⟨rfl, rfl, rfl, rfl, by decide, by intro e; cases e⟩
  have q := newV i k hi e1.2.2.2.2.1 v zs w hv hb (by rw [e1.2.1, e1.2.2.1, hl]; omega) hP hrc (PhB w.heap.size zs k) (PsX w.heap.size zs k (4 + 2 * i)) (fun u u' s o x ho h => h.oc ho) (fun u u' sh a b c ho h => h.oc ho) (fun e => absurd e e1.2.2.2.2.2)
    (fun bg hbg B sh kv mp u hu hB1 hB2 hA => beg_B w.heap.size i k hi (by rcases hk with rfl | rfl | rfl | rfl <;> decide) bg hbg _ _ zs B sh kv mp u hB1 hB2 hA (by omega) (hT.below hu (by have := hT.size; omega)) (hrc.belowB hu hpos)) ?_
  · rw [e1.1] at q; exact q
  · intro fv B sh kv mp ov u _ hΦ hu hB1 hB2 hA few
    obtain ⟨LE, fn, cs, shc, g, h1, h2, h3, h4, h5⟩ := hΦ
    subst h1
    rw [e1.2.2.2.1]
    rw [e1.1] at hA ⊢
    have hA2 := hA
    rw [q8] at hA2
    refine (buildXTS3_ok B sh (sxN i k) 1 (4 + 2 * i) zs kv mp ov fn #[] cs u hA2 hB2 few (by omega) (by omega) hb (hrc.belowB hu hpos) (Nat.lt_of_lt_of_le hpos hu.size)).mono ?_
    intro e u' hh
    obtain ⟨go, ov', rfl, hgo, hK, hR, hS, hF, hkp⟩ := hh.out
    rw [← q8] at hS
    obtain ⟨n0, os0, _, ho0⟩ := few
    have hKk : ∀ x, KeyT u x → u'.heap[x.1]? = u.heap[x.1]? := fun x hx => by
      obtain ⟨R, hR⟩ := hx.2
      exact hkp _ hx.1.ciph.here (type_ne hR h3 (by decide)) (own_not ho0 hR (by decide))
    have hgo2 : g < go := by
      rcases hA.main with ⟨q, _⟩ | ⟨g', nk, hm, _, _, _, hg, _⟩
      · omega
      · have e : shc = shL (sxN i k) 1 kv (16 + 8 * i) mp ov := by
          have p := h3.symm.trans hA.box
          injection p with p
          injection p with p
          exact List.toArray_inj p
        rw [e, hm] at h4
        injection h4 with h4
        injection h4 with h4
        injection h4 with h4
        injection h4 with h4
        have := hg.ciph.here
        omega
    refine ⟨_, _, _, _, _, _, ov', rfl, hS, hF, LE, fn, cs, _, g, go, rfl, (h2.keep hF.bel.size hKk (fun b v hb ho => hkp b hb.lt (type_ne hb h3 (by decide)) ho)).nov, hS.box, ?_, fun x hx => ⟨h5 x hx, ?_⟩, hgo2, by have := hu.size; omega, ⟨hK, hR⟩, rfl, rfl⟩
    · have e : shc = shL (sxN i k) 1 kv (16 + 8 * i) mp ov := by
        have p := h3.symm.trans hA.box
        injection p with p
        injection p with p
        exact List.toArray_inj p
      rw [e] at h4
      exact h4
    · rcases h2 with ⟨_, _, e, _⟩ | ⟨_, ge, bx, e, _, _, _, _, a6, _⟩
      · rw [e] at hx; cases hx
      · rw [e] at hx
        obtain rfl : x = (ge, 14, esK zs) := by simpa using hx
        have := a6.1.ciph.here
        show ge < go
        omega
/-- What an xts seals as. -/
def QX (F : Nat → List Int → List Int) : Prop := ∃ (nr : Nat) (K : Nat → Nat) (t : Nat → BitVec 128), (∀ j, K j < 4294967296) ∧ ∀ s zs, F s zs = mskZ (encV nr K) (dbN (t s)) zs (zs.length / 16)
theorem cipX (i k : Nat) (hi : i < 3) (hk : k = 10 ∨ k = 11 ∨ k = 12 ∨ k = 13) (v : Value) (zs : List Int) (w : World) (hv : View w v zs) (hb : AllBytes zs) (hl : zs.length = 2 * (16 + 8 * i)) (hP : Pow w) (hrc : RC w) (hT : Dg.Tables w) :
    Calls Tryz.prog 26 #[.string (sxN i k), v] w fun e w' => NewG w (CipS QX 1) e w' := by
  refine (newXg i k hi hk v zs w hv hb hl hP hrc hT).mono fun e w' h => ?_
  obtain ⟨c, sh, kv, mp, ov, fv, sv, pv, rfl, hc0, hcb, hsh, ⟨LE, fn, cs, shc, g, go, h1, h2, h3, h4, h5, h6, h7, h8, h9, h10⟩, hbel⟩ := h
  refine ⟨c, rfl, ?_, hbel⟩
  obtain ⟨g', nk, hm, hgB, _, hwd, hgK, hgR⟩ : ∃ g nk, mp = some ⟨g, 0, none⟩ ∧ w.heap.size ≤ g ∧ (nk = 4 ∨ nk = 6 ∨ nk = 8) ∧ 16 + 8 * i = 4 * nk ∧ KeyAt w' g (nk + 6) (schedK nk (nat8 (zs.take (16 + 8 * i)))) ∧ ∃ R : Array Value, w'.heap[g]? = some (.cells R 135 (0, 0)) := by
    rcases hsh.main with ⟨h0, _⟩ | h
    · omega
    · exact h
  have e : shc = shL (sxN i k) 1 kv (16 + 8 * i) mp ov := by
    have p := h3.symm.trans hsh.box
    injection p with p
    injection p with p
    exact List.toArray_inj p
  obtain rfl : g' = g := by
    rw [e, hm] at h4
    injection h4 with h4
    injection h4 with h4
    injection h4 with h4
    injection h4 with h4
  subst h1
  subst h9
  have hxm : KeyT w' (g', nk + 6, schedK nk (nat8 (zs.take (16 + 8 * i)))) := ⟨hgK, hgR⟩
  have hLE : ∀ x, x ∈ LE → w.heap.size ≤ x.1 ∧ KeyT w' x := fun x hx => by
    rcases h2 with ⟨_, _, e, _⟩ | ⟨_, ge, bx, e, _, _, a4, _, a6, _⟩
    · rw [e] at hx; cases hx
    · rw [e] at hx
      obtain rfl : x = (ge, 14, esK zs) := by simpa using hx
      exact ⟨a4, a6⟩
  have hLone : ∀ x y, x ∈ LE → y ∈ LE → x = y := fun x y hx hy => by
    rcases h2 with ⟨_, _, e, _⟩ | ⟨_, ge, bx, e, _⟩
    · rw [e] at hx; cases hx
    · rw [e] at hx hy
      rw [show x = (ge, 14, esK zs) by simpa using hx, show y = (ge, 14, esK zs) by simpa using hy]
  obtain ⟨x0, hx0⟩ : ∃ x : Nat × Nat × (Nat → Nat), x = (g', nk + 6, schedK nk (nat8 (zs.take (16 + 8 * i)))) := ⟨_, rfl⟩
  obtain ⟨y0, hy0⟩ : ∃ x : Nat × Nat × (Nat → Nat), x = (go, (4 + 2 * i) + 6, schedK (4 + 2 * i) (nat8 (zs.drop (4 * (4 + 2 * i))))) := ⟨_, rfl⟩
  have ex1 : x0.1 = g' := by rw [hx0]
  have ey1 : y0.1 = go := by rw [hy0]
  have hKx : KeyT w' x0 := by rw [hx0]; exact hxm
  have hKy : KeyT w' y0 := by rw [hy0]; exact h8
  have hKall : ∀ x, x ∈ x0 :: y0 :: LE → w.heap.size ≤ x.1 ∧ KeyT w' x := fun x hx => by
    simp only [List.mem_cons] at hx
    rcases hx with rfl | rfl | hx
    · exact ⟨by rw [ex1]; exact hgB, hKx⟩
    · exact ⟨by rw [ey1]; exact h7, hKy⟩
    · exact hLE x hx
  have hL : KlP w.heap.size w'.heap.size (x0 :: y0 :: LE) w' := by
    refine ⟨fun x hx => ⟨(hKall x hx).1, (hKall x hx).2.1.ciph.here⟩, fun x y hx hy hxy => ?_, fun x hx => (hKall x hx).2.2⟩
    simp only [List.mem_cons] at hx hy
    rcases hx with rfl | rfl | hx <;> rcases hy with rfl | rfl | hy
    · rfl
    · omega
    · have := (h5 y hy).1; omega
    · omega
    · rfl
    · have := (h5 y hy).2; omega
    · have := (h5 x hx).1; omega
    · have := (h5 x hx).2; omega
    · exact hLone x y hx hy
  have hI : Sti w.heap.size w'.heap.size (x0 :: y0 :: LE) w' w' := ⟨fun x hx => (hKall x hx).2.1, fun b _ _ _ => rfl, Nat.le_refl _⟩
  have hc1 : w.heap.size ≤ c ∧ c < w'.heap.size := ⟨hc0, hcb.lt⟩
  have hs1 : w.heap.size ≤ sh ∧ sh < w'.heap.size := ⟨hsh.le, hsh.box.lt⟩
  have k4 : (shL (sxN i k) 1 kv (16 + 8 * i) mp ov)[4]? = some (.pointer (some ⟨x0.1, 0, none⟩)) := by rw [hm, ex1]; rfl
  rw [← ey1] at hcb
  rcases h2 with ⟨_, _, e1, e2, e3⟩ | ⟨_, ge, bx, e1, e2, e3, a4, a5, a6, a7, _⟩
  · subst e2 e3
    refine ⟨_, _, _, _, hL, hI, xtsGen hL c sh (sbN k) 1 #[] (sbF k) _ pv x0 y0 (by decide) hcb hsh.box hc1 hs1 rfl k4 rfl (by simp) (by simp) (sb_enter k) (begI_pure hL.cst (sbN k) (sbF k) (sb_ok k)), x0.2.1, x0.2.2, fun s => encV y0.2.1 y0.2.2 (sbF k s 0), hKx.1.ciph.small, fun s zs => rfl⟩
  · subst e2 e3
    have hz : ((ge, 14, esK zs) : Nat × Nat × (Nat → Nat)) ∈ x0 :: y0 :: LE := by rw [e1]; simp
    refine ⟨_, _, _, _, hL, hI, xtsGen hL c sh 187 1 #[.pointer (some ⟨bx, 0, none⟩)] (fun s _ => encV 14 (esK zs) (plV true s)) _ pv x0 y0 (by decide) hcb hsh.box hc1 hs1 rfl k4 rfl (by simp) (by simp) (fun args u => enter_ok Tryz.func187 (by rfl) (by rfl) args u) (fun s n u hs hn hIu => ?_), x0.2.1, x0.2.2, fun s => encV y0.2.1 y0.2.2 (encV 14 (esK zs) (plV true s)), hKx.1.ciph.small, fun s zs => rfl⟩
    exact essiv_ok hL.cst bx ge (encV 14 (esK zs)) s (n : Nat) u hs hIu ((hIu.bx hL a7 a5 a7.lt (by decide)).cell 0 _ rfl) (hL.not a7 (by decide)) (sti_und hL (ge, 14, esK zs) hz)
end Go.Proofs.YtehlppaidgkpaaaGreatDoor
namespace Go.Proofs.YtehlppaidgkpaaaGreatDoor
open Go.RowKit
set_option linter.unusedVariables false
set_option linter.unusedSimpArgs false
/-- made of a mode of xts. -/
theorem madeX (q t : Nat) (hq : q < 4) (ht : t < 3) (v : Value) (bs : List Int) (u : World) (G o cp : Nat) (hE : Env u G o cp) (hv : View u v bs) (hbb : AllBytes bs) :
    Calls Tryz.prog 10 #[.agg #[.int .i64 (11 + q + 17 * t : Nat), v]] u fun e w' => MadeG u (CipS QX 1) e w' := by
  have hk : 10 + q = 10 ∨ 10 + q = 11 ∨ 10 + q = 12 ∨ 10 + q = 13 := by omega
  have e1 : mK (10 + q) = 2 ∧ mM (10 + q) = 0 := by rcases hk with h | h | h | h <;> rw [h] <;> exact ⟨rfl, rfl⟩
  have hky : kyN (1 + 17 * t + (10 + q)) = 2 * (16 + 8 * t) := by rw [kyN_lit t (10 + q) (by omega), e1.1, e1.2]; omega
  have hf : ∀ j, j < 1 + 17 * t + (10 + q) → spN j ≠ sxN t (10 + q) := fun j hj => sp_first ⟨t, ht⟩ ⟨10 + q, by omega⟩ ⟨j, by omega⟩ hj
  refine made_gen (11 + q + 17 * t : Nat) (1 + 17 * t + (10 + q)) v bs u G o cp (CipS QX 1) (cipS_gen QX 1) hE.md (by omega) (by rw [wrap_u64_nat _ (by omega)]; omega) hv ?_ ?_
  · intro u2 x2 hu2 hv2
    have hE2 := hE.below hu2
    rw [hky, spN_lit t (10 + q) (by omega)] at *
    exact cipX t (10 + q) ht hk x2 _ u2 hv2 (kyL_bytes hbb _) (kyL_len _ _) hE2.pow hE2.rc hE2.tb
  · intro u2 x2 hu2 hv2
    have hE2 := hE.below hu2
    rw [hky, spN_lit t (10 + q) (by omega)] at *
    exact rnewR t (10 + q) ht (by omega) x2 _ u2 G o cp hf hv2 (kyL_bytes hbb _) (by rw [kyL_len, e1.1, e1.2]; omega) hE2.md hE2.rt
theorem ftN_lo (nn : Int) : 16 ≤ ftN nn false ∧ ftN nn false ≤ 512 := by
  unfold ftN
  have h : (IntKind.u64.wrap nn % 497).toNat < 497 := by omega
  simp; omega
theorem w64_small (x : Nat) (h : x ≤ 1024) : wrap64 (x : Int) = (x : Int) := by unfold wrap64; omega
theorem st_num (nn : Int) (n : Nat) (h : ftN nn false = n) : ∃ m r M6 : Nat, 16 ≤ n ∧ n ≤ 512 ∧ m = n / 16 ∧ r = n - M6 ∧ M6 = 16 * m ∧ M6 ≤ n ∧ 1 ≤ m ∧ r < 16 ∧ (n : Int).tdiv 16 = (m : Int) ∧ (n : Int) / 16 = (m : Int) ∧ (n : Int).tmod 16 = (r : Int) ∧ (n : Int) % 16 = (r : Int) ∧ IntKind.i64.wrap (m : Int) = (m : Int) ∧ IntKind.i64.wrap (r : Int) = (r : Int) ∧ IntKind.i64.wrap (16 * (m : Int)) = (M6 : Int) ∧ IntKind.i64.wrap ((M6 : Int) - 16) = ((M6 - 16 : Nat) : Int) ∧ IntKind.i64.wrap (((M6 - 16 : Nat) : Int) + (r : Int)) = ((M6 - 16 + r : Nat) : Int) ∧ (16 * (m : Int)) = (M6 : Int) := by
  have q := ftN_lo nn
  rw [h] at q
  refine ⟨n / 16, n - 16 * (n / 16), 16 * (n / 16), q.1, q.2, rfl, rfl, rfl, by omega, by omega, by omega, ?_, by omega, ?_, by omega, ?_, ?_, ?_, ?_, ?_, by omega⟩
  · rw [Int.tdiv_eq_ediv_of_nonneg (by omega)]; omega
  · rw [Int.tmod_eq_emod_of_nonneg (by omega)]; omega
  · rw [IntKind.wrap_i64]; omega
  · rw [IntKind.wrap_i64]; omega
  · rw [IntKind.wrap_i64]; omega
  · rw [IntKind.wrap_i64]; omega
  · rw [IntKind.wrap_i64]; omega
set_option maxHeartbeats 400000 in
set_option maxRecDepth 100000 in
/-- The law TweakSteals. -/
theorem lawSteals_ok (nm : Int) (v : Value) (bs : List Int) (s : Nat) (bv : Value) (ys : List Int) (nn : Int) (w : World) (G o cp : Nat) (hE : Env w G o cp) (hv : View w v bs) (hbb : AllBytes bs) (hbv : View w bv ys) (hyb : AllBytes ys) (hs : s < 18446744073709551616) :
    Calls Tryz.prog 5 #[.agg #[.int .i64 nm, v], .int .u64 (s : Nat), bv, .int .i64 nn] w fun e w' => Hid (e = .returned (.bool true) ∧ Below w.heap.size w w') := by
  obtain ⟨va, vc, he, hvr⟩ := id hv
  clear hvr
  obtain ⟨nl, HNL⟩ : ∃ n, Hid (bs.length = n) := ⟨_, rfl⟩
  rw [HNL.out] at he
  subst he
  obtain ⟨N, HN⟩ : ∃ N : Nat, Hid (IntKind.u64.wrap nm % 3000 = (N : Int)) := ⟨(IntKind.u64.wrap nm % 3000).toNat, by show _ = _; omega⟩
  obtain ⟨q, HQ⟩ : ∃ q : Nat, Hid (N % 4 = q) := ⟨_, rfl⟩
  obtain ⟨t, HT⟩ : ∃ t : Nat, Hid (N / 4 % 3 = t) := ⟨_, rfl⟩
  have hq4 : q < 4 := by rw [← HQ.out]; omega
  have ht3 : t < 3 := by rw [← HT.out]; omega
  obtain ⟨T, HTT⟩ : ∃ T : Nat, Hid (11 + q + 17 * t = T) := ⟨_, rfl⟩
  have H9 : Hid (∀ u, (∀ i, i < 4 → u.cell? ⟨w.heap.size + 1, i, none⟩ = some (.int .i64 ((11 + i : Nat) : Int))) → Calls Tryz.prog 9 #[.agg #[.int .i64 nm, .slice va nl vc], .slice (some ⟨w.heap.size + 1, 0, none⟩) 4 4] u fun e w' => Hid (e = .returned (.agg #[.int .i64 (T : Nat), .slice va nl vc]) ∧ Below u.heap.size u w')) := fun u hu => by
    have p := of_ok nm va nl vc (w.heap.size + 1) 4 4 (fun i => 11 + i) u N HN.out (by decide) (by decide) hu (fun i hi => by omega)
    rw [HQ.out, HT.out, HTT.out] at p
    exact p
  have H10 : Hid (∀ u, Below w.heap.size w u → Calls Tryz.prog 10 #[.agg #[.int .i64 (T : Nat), .slice va nl vc]] u fun e w' => MadeG u (CipS QX 1) e w') := fun u hu => by
    have p := madeX q t hq4 ht3 (.slice va nl vc) bs u G o cp (hE.below hu) (hv.below hu) hbb
    rw [HTT.out] at p
    exact p
  obtain ⟨n, HNN⟩ : ∃ n, Hid (ftN nn false = n) := ⟨_, rfl⟩
  obtain ⟨m, r, M6, hn16, hn5, hm, hr, hM6, hM6n, hm1, hr16, f1, f2, f3, f4, f5, f6, f7, f8, f9, _⟩ := st_num nn n HNN.out
  obtain ⟨L, HLL⟩ : ∃ L, Hid (ftL ys n = L) := ⟨_, rfl⟩
  have HLB : Hid (L.length = n ∧ AllBytes L) := by rw [← HLL.out]; exact ⟨ftL_len _ _, ftL_bytes hyb _⟩
  have H11 : Hid (∀ u, Below w.heap.size w u → Calls Tryz.prog 11 #[bv, .int .i64 nn, .bool false] u fun e w' => Hid (∃ b d, e = .returned (.slice (some ⟨b, 0, none⟩) n d) ∧ u.heap.size ≤ b ∧ View w' (.slice (some ⟨b, 0, none⟩) n d) L ∧ Below u.heap.size u w')) := fun u hu => by
    refine (fit_ok bv ys nn false u (hbv.below hu)).mono fun e w' hh => ?_
    obtain ⟨y, d, rfl, ho, hbl⟩ := hh.out
    rw [HNN.out] at ho ⊢
    rw [HLL.out] at ho
    have hvw := view_owns ho HLB.out.1
    rcases ho.2 with ⟨_, z⟩ | ⟨b, c2, cur, z, z1, _, z3, z4, _⟩
    · omega
    · injection z with z5 z6 z7
      subst z5 z7
      exact ⟨b, _, rfl, z1, hvw, hbl⟩
  have H14 : Hid (∀ u, Calls Tryz.prog 14 #[.int .i64 0] u fun e w' => e = .returned (.int .i64 0) ∧ w' = u) := fun u => num_ok 0 u
  obtain ⟨M5, HM5⟩ : ∃ M5, Hid (M6 - 16 = M5) := ⟨_, rfl⟩
  obtain ⟨M7, HM7⟩ : ∃ M7, Hid (M5 + r = M7) := ⟨_, rfl⟩
  rw [HM5.out] at f8 f9
  rw [HM7.out] at f9
  have HNU : Hid (16 ≤ n ∧ n ≤ 512 ∧ m = n / 16 ∧ r = n - M6 ∧ M6 = 16 * m ∧ M6 ≤ n ∧ 1 ≤ m ∧ r < 16 ∧ M5 = M6 - 16 ∧ M7 = M5 + r ∧ s < 18446744073709551616) := ⟨hn16, hn5, hm, hr, hM6, hM6n, hm1, hr16, HM5.out.symm, HM7.out.symm, hs⟩
  have hM5n : M5 ≤ 512 := by rw [← HM5.out]; exact Nat.le_trans (Nat.sub_le _ _) (Nat.le_trans hM6n hn5)
  have hM7n : M7 ≤ 600 := by rw [← HM7.out]; exact Nat.le_trans (Nat.add_le_add hM5n (Nat.le_of_lt hr16)) (by decide)
  have g6 : wrap64 (M6 : Int) = (M6 : Int) := w64_small M6 (Nat.le_trans hM6n (Nat.le_trans hn5 (by decide)))
  have g5 : wrap64 (M5 : Int) = (M5 : Int) := w64_small M5 (Nat.le_trans hM5n (by decide))
  have g7 : wrap64 (M7 : Int) = (M7 : Int) := w64_small M7 (Nat.le_trans hM7n (by decide))
  clear hM5n hM7n
  clear hv hbb hbv hyb hE hq4 ht3 hn16 hn5 hm hr hM6 hM6n hm1 hr16 HM5 HM7 hs
  have c16 : ∀ i, i < 4 → ((w.alloc (.cells #[.int .i64 nm, .slice va nl vc] 24)).alloc (.cells #[.int .i64 11, .int .i64 12, .int .i64 13, .int .i64 14] 3)).cell? ⟨w.heap.size + 1, i, none⟩ = some (.int .i64 ((11 + i : Nat) : Int)) := by
    intro i hi
    match i, hi with
    | 0, _ => simp
    | 1, _ => simp
    | 2, _ => simp
    | 3, _ => simp
  have HBX : Hid (Bx ((w.alloc (.cells #[.int .i64 nm, .slice va nl vc] 24)).alloc (.cells #[.int .i64 11, .int .i64 12, .int .i64 13, .int .i64 14] 3)) w.heap.size 24 [.int .i64 nm, .slice va nl vc] ∧ Below w.heap.size w ((w.alloc (.cells #[.int .i64 nm, .slice va nl vc] 24)).alloc (.cells #[.int .i64 11, .int .i64 12, .int .i64 13, .int .i64 14] 3)) ∧ (∀ i, i < 4 → ((w.alloc (.cells #[.int .i64 nm, .slice va nl vc] 24)).alloc (.cells #[.int .i64 11, .int .i64 12, .int .i64 13, .int .i64 14] 3)).cell? ⟨w.heap.size + 1, i, none⟩ = some (.int .i64 ((11 + i : Nat) : Int)))) :=
    ⟨(Bx.new w 24 [.int .i64 nm, .slice va nl vc]).below ((Below.refl _ _).alloc (Nat.le_refl _) _), ((Below.refl _ _).alloc (Nat.le_refl _) _).alloc (by simp) _, c16⟩
  clear c16
  go_enter Tryz.func5, Tryz.ntmps5
  go_upto_region 2 with (first
    | (go_at_call 9; refine (H9.out _ HBX.out.2.2).mono ?_; intro e2 w2 hh; obtain ⟨rfl, hb2⟩ := hh.out; have HB2 : Hid (Bx w2 w.heap.size 24 [.int .i64 nm, .slice va nl vc] ∧ Below w.heap.size w w2) := ⟨HBX.out.1.below hb2, HBX.out.2.1.trans (hb2.mono HBX.out.2.1.size)⟩; clear hh hb2 H9 HBX)
    | (refine wpList_store_bx (by rfl) 24 (.tmp 4) (.tmp 20) (by rfl) [.int .i64 nm, .slice va nl vc] [.int .i64 (T : Nat), .slice va nl vc] w.heap.size (by rfl) (by rfl) HB2.out.1 rfl (by kernel_rfl) (by intro v hv; simp at hv; rcases hv with rfl | rfl <;> rfl) ?_; intro w3 hb3 hg3; have HB3 : Hid (Bx w3 w.heap.size 24 [.int .i64 (T : Nat), .slice va nl vc] ∧ Below w.heap.size w w3) := ⟨hb3, HB2.out.2.trans (below_gb hg3 HB2.out.2.size (Nat.le_refl _))⟩; clear hb3 hg3))
  have d0 : w3.cell? ⟨w.heap.size, 0, none⟩ = some (.int .i64 (T : Nat)) := HB3.out.1.cell 0 _ rfl
  have d1 : w3.cell? ⟨w.heap.size, 1, none⟩ = some (.slice va nl vc) := HB3.out.1.cell 1 _ rfl
  go_upto_region 5 with (first
    | (go_at_call 10; refine (H10.out _ HB3.out.2).mono ?_; intro e4 w4 hh; obtain ⟨A, c, rr, rfl, hA4, hcip, hbel⟩ := hh; obtain ⟨B, Lk, w0, F, hKl, hSti, hSeal, nr, K, ti, hKs, hF⟩ := hcip; have HC4 : Hid (KlP A B Lk w0 ∧ SealI 13 (KsOf Lk) (Sti A B Lk w0) 1 c F ∧ (∀ s zs, F s zs = mskZ (encV nr K) (dbN (ti s)) zs (zs.length / 16)) ∧ w.heap.size ≤ A) := ⟨hKl, hSeal, hF, Nat.le_trans HB3.out.2.size hA4⟩; have HI4 : Hid (Sti A B Lk w0 w4 ∧ Below w.heap.size w w4) := ⟨hSti, HB3.out.2.trans (hbel.mono HB3.out.2.size)⟩; clear hA4 hbel hKl hSti hSeal hF hKs H10 d0 d1 HB3))
  go_upto_region 6 with (first
    | (go_at_call 11; refine (H11.out _ HI4.out.2).mono ?_; intro e5 w5 hh; obtain ⟨b, d, rfl, p1, p4, p5⟩ := hh.out; have HV5 : Hid (View w5 (.slice (some ⟨b, 0, none⟩) n d) L ∧ ¬ KsOf Lk b) := ⟨p4, HC4.out.1.cst.new (Nat.le_trans HI4.out.1.size p1)⟩; have HI5 : Hid (Sti A B Lk w0 w5 ∧ Below w.heap.size w w5) := ⟨HC4.out.1.cst.below HI4.out.1 p5, HI4.out.2.trans (p5.mono HI4.out.2.size)⟩; clear hh p1 p4 p5 H11))
  go_upto_region 8 with fail
  have HS1 : Hid (Calls Tryz.prog 13 #[.pointer (some ⟨c, 0, none⟩), .int .u64 (s : Nat), .slice (some ⟨b, 0, none⟩) n d] w5 fun e u' => Hid (∃ x d2, e = .returned (.tuple #[.slice (some ⟨x, 0, none⟩) n d2, .int .i64 0]) ∧ w5.heap.size ≤ x ∧ View u' (.slice (some ⟨x, 0, none⟩) n d2) (mskZ (encV nr K) (dbN (ti s)) L m) ∧ Sti A B Lk w0 u' ∧ Gk (KsOf Lk) w5 u')) := by
    have p := HC4.out.2.1 s b 0 d L w5 HI5.out.1 HNU.out.2.2.2.2.2.2.2.2.2.2 (by rw [HLB.out.1]; exact HNU.out.1) (by rw [HLB.out.1]; have := HNU.out.2.1; omega) (Nat.mod_one _) HLB.out.2 HV5.out.2 (by rw [HLB.out.1]; exact HV5.out.1)
    rw [HC4.out.2.2.1, HLB.out.1, ← HNU.out.2.2.1] at p
    exact p
  go_upto_region 9 with (go_at_call 13; refine HS1.out.mono ?_; intro e6 w6 hh; obtain ⟨x1, d2, rfl, p1, p2, p3, p4⟩ := hh.out; have HP6 : Hid (w5.heap.size ≤ x1 ∧ View w6 (.slice (some ⟨x1, 0, none⟩) n d2) (mskZ (encV nr K) (dbN (ti s)) L m) ∧ Sti A B Lk w0 w6 ∧ Gk (KsOf Lk) w5 w6) := ⟨p1, p2, p3, p4⟩; clear hh p1 p2 p3 p4 HS1)
  have hnd : Hid (n ≤ d ∧ n ≤ d2) := ⟨(view_cells HV5.out.1).2.1, (view_cells HP6.out.2.1).2.1⟩
  have hsl1 : ∀ u : World, (Instr.slice 22 (.slice (some ⟨b, 0, none⟩) n d) none (some (.int .i64 (M6 : Nat))) none).run Tryz.prog u = .ok (.slice (some ⟨b, 0, none⟩) M6 d) u := fun u => by
    clear f1 f2 f3 f4 f5 f6 f7 f8 f9 g5 g6 g7
    have := hnd.out; have := HNU.out
    rw [slice_h u _ n d M6 (by omega), sl_lit _ _ _ _ _ (by omega)]; rfl
  have HS2 : Hid (Calls Tryz.prog 13 #[.pointer (some ⟨c, 0, none⟩), .int .u64 (s : Nat), .slice (some ⟨b, 0, none⟩) M6 d] w6 fun e u' => Hid (∃ x d3, e = .returned (.tuple #[.slice (some ⟨x, 0, none⟩) M6 d3, .int .i64 0]) ∧ w6.heap.size ≤ x ∧ View u' (.slice (some ⟨x, 0, none⟩) M6 d3) (mskZ (encV nr K) (dbN (ti s)) (L.take (16 * m)) m) ∧ Sti A B Lk w0 u' ∧ Gk (KsOf Lk) w6 u')) := by
    clear f1 f2 f3 f4 f5 f6 f7 f8 f9 g5 g6 g7
    have hz := HNU.out
    have hlt : (L.take (16 * m)).length = M6 := by rw [List.length_take, HLB.out.1]; omega
    have hvs := view_sliced HV5.out.1 0 M6 (by omega) (by omega)
    rw [sl_lit _ _ _ _ _ (by have := hnd.out; omega), List.drop_zero, Nat.sub_zero, Nat.sub_zero, Nat.add_zero, hz.2.2.2.2.1] at hvs
    have hv6 : View w6 (.slice (some ⟨b, 0, none⟩) (16 * m) d) (L.take (16 * m)) := by
      obtain ⟨z1, z2, z3⟩ := view_cells hvs
      have z4 := view_of (w := w6) (b := b) (off := 0) (c := d) (zs := L.take (16 * m)) (by omega) (by obtain ⟨_, _, ze, _, zm, _⟩ := hvs; injection ze with _ _ ze; omega) (fun i hi => HP6.out.2.2.2.cell HV5.out.2 (z3 i hi))
      rw [z1] at z4
      exact z4
    have p := HC4.out.2.1 s b 0 d (L.take (16 * m)) w6 HP6.out.2.2.1 hz.2.2.2.2.2.2.2.2.2.2 (by rw [hlt]; omega) (by rw [hlt]; omega) (Nat.mod_one _) (fun i => by
      by_cases hi : i < 16 * m
      · rw [getD_take _ _ _ hi]; exact HLB.out.2 i
      · rw [List.getD_eq_getElem?_getD, List.getElem?_eq_none (by omega)]; simp) HV5.out.2 (by rw [hlt, hz.2.2.2.2.1]; exact hv6)
    rw [HC4.out.2.2.1, hlt, show M6 / 16 = m by omega] at p
    exact p
  go_upto_region 10 with (go_at_call 13; refine HS2.out.mono ?_; intro e7 w7 hh; obtain ⟨x2, d3, rfl, p1, p2, p3, p4⟩ := hh.out; have HP7 : Hid (w6.heap.size ≤ x2 ∧ View w7 (.slice (some ⟨x2, 0, none⟩) M6 d3) (mskZ (encV nr K) (dbN (ti s)) (L.take (16 * m)) m) ∧ Sti A B Lk w0 w7 ∧ Gk (KsOf Lk) w6 w7) := ⟨p1, p2, p3, p4⟩; clear hh p1 p2 p3 p4 HS2)
  have HU7 : Hid (View w7 (.slice (some ⟨x1, 0, none⟩) n d2) (mskZ (encV nr K) (dbN (ti s)) L m)) := by
    clear f1 f2 f3 f4 f5 f6 f7 f8 f9 g5 g6 g7
    have hk1 : ¬ KsOf Lk x1 := HC4.out.1.cst.new (Nat.le_trans HI5.out.1.size HP6.out.1)
    obtain ⟨z1, z2, z3⟩ := view_cells HP6.out.2.1
    have z4 := view_of (w := w7) (b := x1) (off := 0) (c := d2) (zs := mskZ (encV nr K) (dbN (ti s)) L m) (by omega) (by obtain ⟨_, _, ze, _, zm, _⟩ := HP6.out.2.1; injection ze with _ _ ze; omega) (fun i hi => HP7.out.2.2.2.cell hk1 (z3 i hi))
    rw [z1] at z4
    exact z4
  have HX1 : Hid (w.heap.size ≤ x1 ∧ Below w.heap.size w w7) := by
    clear f1 f2 f3 f4 f5 f6 f7 f8 f9 g5 g6 g7
    have hb5 := HI5.out.2
    have hA := HC4.out.2.2.2
    have hlow : ∀ {u v : World}, Gk (KsOf Lk) u v → w.heap.size ≤ u.heap.size → Below w.heap.size u v := fun {u v} hg hu => ⟨hg.os, hg.tape, hg.output, hg.size, fun k hk => hg.block k (Nat.lt_of_lt_of_le hk hu) (fun e => by obtain ⟨x, hx, rfl⟩ := e; have := (HC4.out.1.low x hx).1; omega)⟩
    exact ⟨Nat.le_trans hb5.size HP6.out.1, hb5.trans ((hlow HP6.out.2.2.2 hb5.size).trans (hlow HP7.out.2.2.2 (Nat.le_trans hb5.size HP6.out.2.2.2.size)))⟩
  go_upto_region 12 with (go_at_call 14; refine (H14.out _).mono ?_; rintro e8 w8 ⟨rfl, hw⟩; obtain rfl := hw.symm; clear hw)
  by_cases hr0 : r = 0
  · have i0 : ((r : Int) == 0) = true := by rw [hr0]; rfl
    have i1 : (r : Int) = 0 := by rw [hr0]; rfl
    have HSM : Hid (Calls Tryz.prog 16 #[.slice (some ⟨x1, 0, none⟩) n d2, .slice (some ⟨x2, 0, none⟩) M6 d3] w7 fun e w' => e = .returned (.bool true) ∧ ∃ m, w' = w7.drewN m) := by
      have z := same_any _ _ _ _ w7 HU7.out HP7.out.2.1
      refine z.mono fun e w' hh => ⟨?_, hh.2⟩
      rw [hh.1, decide_eq_true]
      rw [List.take_of_length_le (by clear f1 f2 f3 f4 f5 f6 f7 f8 f9 g5 g6 g7; rw [HLB.out.1]; have := HNU.out; omega)]
    clear hr0
    go_wp2_with (go_at_call 16; refine HSM.out.mono ?_; rintro e9 w9 ⟨rfl, mm, rfl⟩)
    go_ret
    exact ⟨rfl, Below.drewN HX1.out.2 _⟩
  · have i0 : ((r : Int) == 0) = false := by clear f1 f2 f3 f4 f5 f6 f7 f8 f9 g5 g6 g7; simp; omega
    have i1 : ¬ (r : Int) = 0 := by clear f1 f2 f3 f4 f5 f6 f7 f8 f9 g5 g6 g7; omega
    have hlm : Hid (L.length ≠ 16 * m ∧ m = L.length / 16 ∧ 1 ≤ m ∧ M5 = 16 * m - 16 ∧ M6 = 16 * m ∧ r = L.length - 16 * m) := by clear f1 f2 f3 f4 f5 f6 f7 f8 f9 g5 g6 g7; rw [HLB.out.1]; have := HNU.out; show _ ∧ _; omega
    obtain ⟨U, HU⟩ : ∃ U, Hid (mskZ (encV nr K) (dbN (ti s)) L m = U) := ⟨_, rfl⟩
    obtain ⟨V, HV⟩ : ∃ V, Hid (mskZ (encV nr K) (dbN (ti s)) (L.take (16 * m)) m = V) := ⟨_, rfl⟩
    have HF1 : Hid (U.take M5 = V.take M5) := by rw [← HU.out, ← HV.out, hlm.out.2.2.2.1]; exact steal_front _ _ L m hlm.out.2.1 hlm.out.1 hlm.out.2.2.1
    have HF2 : Hid (U.drop M6 = (V.drop M5).take r) := by rw [← HU.out, ← HV.out, hlm.out.2.2.2.1, hlm.out.2.2.2.2.1, hlm.out.2.2.2.2.2]; exact steal_back _ _ L m hlm.out.2.1 hlm.out.1 hlm.out.2.2.1
    have hU7 := HU7.out
    have hV7 := HP7.out.2.1
    rw [HU.out] at hU7
    rw [HV.out] at hV7
    have hd2 : Hid (n ≤ d2 ∧ M6 ≤ d3) := ⟨(view_cells hU7).2.1, (view_cells hV7).2.1⟩
    have HSA : Hid (∀ q, Calls Tryz.prog 16 #[.slice (some ⟨x1, 0, none⟩) M5 d2, .slice (some ⟨x2, 0, none⟩) M5 d3] (w7.drewN q) fun e w' => e = .returned (.bool true) ∧ ∃ m, w' = (w7.drewN q).drewN m) := fun q => by
      clear f1 f2 f3 f4 f5 f6 f7 f8 f9 g5 g6 g7
      have hz := HNU.out
      have hd := hd2.out
      have v1 := view_sliced (hU7.below (Below.drewN (Below.refl _ _) q)) 0 M5 (by omega) (by omega)
      have v2 := view_sliced (hV7.below (Below.drewN (Below.refl _ _) q)) 0 M5 (by omega) (by omega)
      rw [sl_lit _ _ _ _ _ (by omega), List.drop_zero, Nat.sub_zero, Nat.sub_zero, Nat.add_zero] at v1 v2
      refine (same_any _ _ _ _ _ v1 v2).mono fun e w' hh => ⟨?_, hh.2⟩
      rw [hh.1, decide_eq_true HF1.out]
    have HSB : Hid (∀ q, Calls Tryz.prog 16 #[.slice (some ⟨x1, M6, none⟩) r (d2 - M6), .slice (some ⟨x2, M5, none⟩) r (d3 - M5)] (w7.drewN q) fun e w' => e = .returned (.bool true) ∧ ∃ m, w' = (w7.drewN q).drewN m) := fun q => by
      clear f1 f2 f3 f4 f5 f6 f7 f8 f9 g5 g6 g7
      have hz := HNU.out
      have hd := hd2.out
      have v1 := view_sliced (hU7.below (Below.drewN (Below.refl _ _) q)) M6 n (by omega) (by omega)
      have v2 := view_sliced (hV7.below (Below.drewN (Below.refl _ _) q)) M5 M7 (by omega) (by omega)
      rw [sl_lit _ _ _ _ _ (by omega), Nat.zero_add, ← hz.2.2.2.1] at v1
      rw [sl_lit _ _ _ _ _ (by omega), Nat.zero_add, show M7 - M5 = r by omega] at v2
      refine (same_any _ _ _ _ _ v1 v2).mono fun e w' hh => ⟨?_, hh.2⟩
      rw [hh.1, decide_eq_true]
      rw [List.take_of_length_le (by rw [List.length_drop, ← HU.out, mskZ_len, HLB.out.1]; omega)]
      exact HF2.out
    have hsA : ∀ u : World, (Instr.slice 22 (.slice (some ⟨x1, 0, none⟩) n d2) none (some (.int .i64 (M5 : Nat))) none).run Tryz.prog u = .ok (.slice (some ⟨x1, 0, none⟩) M5 d2) u := fun u => by
      clear f1 f2 f3 f4 f5 f6 f7 f8 f9 g5 g6 g7
      have := hd2.out; have := HNU.out
      rw [slice_h u _ n d2 M5 (by omega), sl_lit _ _ _ _ _ (by omega)]; rfl
    have hsB : ∀ u : World, (Instr.slice 22 (.slice (some ⟨x2, 0, none⟩) M6 d3) none (some (.int .i64 (M5 : Nat))) none).run Tryz.prog u = .ok (.slice (some ⟨x2, 0, none⟩) M5 d3) u := fun u => by
      clear f1 f2 f3 f4 f5 f6 f7 f8 f9 g5 g6 g7
      have := hd2.out; have := HNU.out
      rw [slice_h u _ M6 d3 M5 (by omega), sl_lit _ _ _ _ _ (by omega)]; rfl
    have hsC : ∀ u : World, (Instr.slice 22 (.slice (some ⟨x1, 0, none⟩) n d2) (some (.int .i64 (M6 : Nat))) none none).run Tryz.prog u = .ok (.slice (some ⟨x1, M6, none⟩) r (d2 - M6)) u := fun u => by
      clear f1 f2 f3 f4 f5 f6 f7 f8 f9 g5 g6 g7
      have := hd2.out; have := HNU.out
      rw [slice_l u _ n d2 M6 (by omega) (by omega), sl_lit _ _ _ _ _ (by omega), Nat.zero_add, ← HNU.out.2.2.2.1]
    have hsD : ∀ u : World, (Instr.slice 22 (.slice (some ⟨x2, 0, none⟩) M6 d3) (some (.int .i64 (M5 : Nat))) (some (.int .i64 (M7 : Nat))) none).run Tryz.prog u = .ok (.slice (some ⟨x2, M5, none⟩) r (d3 - M5)) u := fun u => by
      clear f1 f2 f3 f4 f5 f6 f7 f8 f9 g5 g6 g7
      have := hd2.out; have := HNU.out
      rw [slice_lh u _ M6 d3 M5 M7 (by omega) (by omega), sl_lit _ _ _ _ _ (by omega), Nat.zero_add, show M7 - M5 = r by omega]
    clear hr0 hU7 hV7 hsl1 f1 f2 f3 f4
    go_upto_region 14 with fail
    go_quiet (first | (go_at_call 16; with_reducible refine Calls.quiet_of (HSA.out _)) | (go_at_call 16; with_reducible refine Calls.quiet_of (HSB.out _)))
    go_wp2
    go_ret
    exact ⟨rfl, Below.drewN HX1.out.2 _⟩
end Go.Proofs.YtehlppaidgkpaaaGreatDoor
