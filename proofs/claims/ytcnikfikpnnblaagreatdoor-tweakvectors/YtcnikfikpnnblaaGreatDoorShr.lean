import Derived.Test.YtcnikfikpnnblaaGreatDoorPart17
import Derived.Test.YtcnikfikpnnblaaGreatDoorPart21
import Derived.Deep.RegionHeld3
import Derived.Maps.AppendAt
namespace Go.Proofs.YtcnikfikpnnblaaGreatDoor
open Go.RowKit
set_option linter.unusedVariables false
set_option linter.unusedSimpArgs false
/-- rijndael.New of bytes that are seen. -/
theorem new_view (v : Value) (ys : List Int) (nk : Nat) (w : World) (hnk : nk = 4 ∨ nk = 6 ∨ nk = 8) (hl : ys.length = 4 * nk) (hv : View w v ys) (hb : AllBytes ys) (hrc : RC w) (hpos : 3 < w.heap.size) :
    Calls Tryz.prog 54 #[v] w fun e w' => Hid (∃ g, e = .returned (.tuple #[.pointer (some ⟨g, 0, none⟩), .int .i64 0]) ∧ w.heap.size ≤ g ∧ KeyAt w' g (nk + 6) (schedK nk (nat8 ys)) ∧ Below w.heap.size w w' ∧ ∃ R : Array Value, w'.heap[g]? = some (.cells R 160 (0, 0))) := by
  have h0 : ys ≠ [] := by intro q; rw [q] at hl; simp at hl; omega
  have hlt := view_lt hv h0
  obtain ⟨a, c, rfl, h1, h2, h3, h4⟩ := hv
  rcases h4 with q | ⟨b, off, rfl, hc⟩
  · exact absurd q h0
  · rw [hl] at hc hlt ⊢
    exact (new_ok b off (4 * nk) c nk (nat8 ys) w hnk rfl (hlt b off _ _ rfl) (fun i hi => by rw [nat8_eq hb]; exact hc i hi) (nat8_lt hb) hrc hpos).mono fun e w' hh => hh
/-- The shared part's cells. -/
def shL (S : ByteArray) (st : Nat) (kv : Value) (wd : Nat) (mp : Option Addr) (ov : Value) : List Value := [.string S, .int .i64 (st : Nat), kv, .int .i64 (wd : Nat), .pointer mp, ov, .bool false]
/-- AES under the key's first wd bytes. -/
def MK (w : World) (B : Nat) (mp : Option Addr) (wd : Nat) (zs : List Int) : Prop :=
  (wd = 0 ∧ mp = none) ∨ ∃ g nk, mp = some ⟨g, 0, none⟩ ∧ B ≤ g ∧ (nk = 4 ∨ nk = 6 ∨ nk = 8) ∧ wd = 4 * nk ∧ KeyAt w g (nk + 6) (schedK nk (nat8 (zs.take wd))) ∧ ∃ R : Array Value, w.heap[g]? = some (.cells R 160 (0, 0))
structure ShA (B : Nat) (w : World) (sh : Nat) (S : ByteArray) (st wd : Nat) (zs : List Int) (kv : Value) (mp : Option Addr) (ov : Value) : Prop where
  le : B ≤ sh
  box : Bx w sh 108 (shL S st kv wd mp ov)
  key : w.ownsRow B 5 1 kv zs.length (cellsU8 zs)
  main : MK w B mp wd zs
  oth : ∃ n os, n ≤ 4 ∧ w.ownsRow B 105 1 ov n os
/-- Only the shared part, and the row of its schedules, change. -/
structure Fs (B sh : Nat) (w w' : World) : Prop where
  bel : Below B w w'
  blk : ∀ b, b < w.heap.size → b ≠ sh → (∀ cs fr, w.heap[b]? ≠ some (.cells cs 105 fr)) → w'.heap[b]? = w.heap[b]?
theorem Fs.of_below {B sh : Nat} {w w' : World} (h : Below w.heap.size w w') (hB : B ≤ w.heap.size) : Fs B sh w w' := ⟨h.mono hB, fun b hb _ _ => h.block b hb⟩
theorem Fs.trans {B sh : Nat} {u v w : World} (h : Fs B sh u v) (k : Fs B sh v w) : Fs B sh u w :=
  ⟨h.bel.trans k.bel, fun b hb hn ht => by
    have e := h.blk b hb hn ht
    rw [k.blk b (Nat.lt_of_lt_of_le hb h.bel.size) hn (by rw [e]; exact ht), e]⟩
theorem Fs.bx {B sh b : Nat} {t : TypeId} {w w' : World} {cs : List Value} (h : Fs B sh w w') (x : Bx w b t cs) (hn : b ≠ sh) (ht : t ≠ 105) : Bx w' b t cs :=
  x.keep (h.blk b x.lt hn (fun cs fr q => by unfold Bx at x; rw [x] at q; injection q with q; injection q with _ q _; exact ht q))
theorem MK.keep {w w' : World} {B : Nat} {mp : Option Addr} {wd : Nat} {zs : List Int} (h : MK w B mp wd zs) (hk : ∀ g, mp = some ⟨g, 0, none⟩ → w'.heap[g]? = w.heap[g]?) (hs : w.heap.size ≤ w'.heap.size) : MK w' B mp wd zs := by
  rcases h with q | ⟨g, nk, e, hB, hn, hw, hK, R, hR⟩
  · exact .inl q
  · exact .inr ⟨g, nk, e, hB, hn, hw, hK.sameK (hk g e) hs, R, by rw [hk g e]; exact hR⟩
theorem MK.lt {w : World} {B : Nat} {mp : Option Addr} {wd : Nat} {zs : List Int} (h : MK w B mp wd zs) (g : Nat) (e : mp = some ⟨g, 0, none⟩) : g < w.heap.size ∧ B ≤ g ∧ ∃ R : Array Value, w.heap[g]? = some (.cells R 160 (0, 0)) := by
  rcases h with ⟨_, q⟩ | ⟨g', nk, e', hB, hn, hw, hK, R, hR⟩
  · rw [q] at e; cases e
  · rw [e'] at e; injection e with e; injection e with e; subst e
    exact ⟨hK.ciph.here, hB, R, hR⟩
theorem own_type {w : World} {B : Nat} {e : TypeId} {K : Nat} {v : Value} {n : Nat} {xs : List Value} (h : w.ownsRow B e K v n xs) {g : Nat} (hg : v.ownBlock = some g) : ∃ cur, w.heap[g]? = some (.cells cur e (0, 0)) := by
  rcases h.2 with ⟨rfl, _⟩ | ⟨g', cap, cur, rfl, _, hh, _⟩
  · simp [Value.ownBlock] at hg
  · have e : g' = g := by simpa [Value.ownBlock] using hg
    subst e
    exact ⟨cur, hh⟩
theorem type_ne {w : World} {a b : Nat} {s t : TypeId} {cs ds : Array Value} {f g : Nat × Nat} (h : w.heap[a]? = some (.cells cs s f)) (k : w.heap[b]? = some (.cells ds t g)) (hst : s ≠ t) : a ≠ b := by
  intro e; subst e; rw [h] at k; injection k with k; injection k with _ k _; exact hst k
theorem ShA.below {B : Nat} {w w' : World} {sh : Nat} {S : ByteArray} {st wd : Nat} {zs : List Int} {kv : Value} {mp : Option Addr} {ov : Value} (h : ShA B w sh S st wd zs kv mp ov) (b : Below w.heap.size w w') : ShA B w' sh S st wd zs kv mp ov :=
  ⟨h.le, h.box.below b, ownsRow_below h.key b, h.main.keep (fun g e => b.block g (h.main.lt g e).1) b.size, by obtain ⟨n, os, hn, ho⟩ := h.oth; exact ⟨n, os, hn, ownsRow_below ho b⟩⟩
/-- The row of schedules grew, then the shared part's sixth cell was written. -/
theorem ShA.sched {B : Nat} {w w1 : World} {sh : Nat} {S : ByteArray} {st wd : Nat} {zs : List Int} {kv : Value} {mp : Option Addr} {ov ov' : Value} {n : Nat} {os : List Value} (h : ShA B w sh S st wd zs kv mp ov) (hg : w.grownBy w1 ov.ownBlock) (ho : w1.ownsRow B 105 1 ov' n os) (hn : n ≤ 4) (hB : B ≤ w.heap.size) :
    Bx w1 sh 108 (shL S st kv wd mp ov) ∧ ShA B (w1.setCell ⟨sh, 5, none⟩ ov') sh S st wd zs kv mp ov' ∧ Fs B sh w (w1.setCell ⟨sh, 5, none⟩ ov') := by
  obtain ⟨n0, os0, _, ho0⟩ := h.oth
  have hne : ∀ (b : Nat) (t : TypeId) (cs : Array Value) (fr : Nat × Nat), w.heap[b]? = some (Obj.cells cs t fr) → t ≠ 105 → w1.heap[b]? = w.heap[b]? := fun b t cs fr hb ht => by
    refine hg.block b (Array.getElem?_eq_some_iff.1 hb).1 ?_
    intro e
    obtain ⟨cur, q⟩ := own_type ho0 e.symm
    exact type_ne q hb (fun e => ht e.symm) rfl
  have b1 : Bx w1 sh 108 (shL S st kv wd mp ov) := h.box.keep (hne _ 108 _ _ h.box (by decide))
  have hst : ∀ b, b ≠ sh → (w1.setCell ⟨sh, 5, none⟩ ov').heap[b]? = w1.heap[b]? := fun b hb => Below.heap_setCell w1 ⟨sh, 5, none⟩ ov' b (fun e => hb e)
  have b2 := b1.set 5 ov'
  refine ⟨b1, ⟨h.le, b2, ?_, ?_, n, os, hn, ?_⟩, ?_, ?_⟩
  · refine ownsRow_keep h.key fun g q => ?_
    obtain ⟨cur, hc⟩ := own_type h.key q
    rw [hst g (type_ne hc h.box (by decide)), hne g 5 _ _ hc (by decide)]
  · refine h.main.keep (fun g e => ?_) ?_
    · obtain ⟨_, _, R, hR⟩ := h.main.lt g e
      rw [hst g (type_ne hR h.box (by decide)), hne g 160 _ _ hR (by decide)]
    · have := hg.size; simpa using this
  · refine ownsRow_keep ho fun g q => ?_
    obtain ⟨cur, hc⟩ := own_type ho q
    exact hst g (type_ne hc b1 (by decide))
  · have q : Below B w w1 := (Below.refl _ _).grown hg hB (fun k hk => (ownsRow_lt ho0 hk).1)
    exact q.setCell h.le _
  · intro b hb hn' ht
    rw [hst b hn']
    refine hg.block b hb ?_
    intro e
    obtain ⟨cur, q⟩ := own_type ho0 e.symm
    exact ht _ _ q
theorem Tryz.info105 : (Tryz.prog.info? 105).map (fun i => (i.zero, i.size, i.bytes)) = some (some (.pointer none), 1, 8) := by kernel_rfl
set_option maxHeartbeats 1600000 in
set_option maxRecDepth 100000 in
/-- shared.schedule. -/
theorem schedule_ok (B sh : Nat) (S : ByteArray) (st wd : Nat) (zs : List Int) (kv : Value) (mp : Option Addr) (ov : Value) (v : Value) (ys : List Int) (nk : Nat) (w : World) (h : ShA B w sh S st wd zs kv mp ov) (hB : B ≤ w.heap.size) (hfew : ∃ n os, n ≤ 3 ∧ w.ownsRow B 105 1 ov n os)
    (hnk : nk = 4 ∨ nk = 6 ∨ nk = 8) (hl : ys.length = 4 * nk) (hv : View w v ys) (hb : AllBytes ys) (hrc : RC w) (hpos : 3 < w.heap.size) :
    Calls Tryz.prog 144 #[.pointer (some ⟨sh, 0, none⟩), v] w fun e w' => Hid (∃ g ov', e = .returned (.pointer (some ⟨g, 0, none⟩)) ∧ w.heap.size ≤ g ∧ KeyAt w' g (nk + 6) (schedK nk (nat8 ys)) ∧ (∃ R : Array Value, w'.heap[g]? = some (.cells R 160 (0, 0))) ∧ ShA B w' sh S st wd zs kv mp ov' ∧ (∀ n os, w.ownsRow B 105 1 ov n os → ∃ os', w'.ownsRow B 105 1 ov' (n + 1) os') ∧ Fs B sh w w') := by
  have HN : Hid (Calls Tryz.prog 54 #[v] w fun e w' => Hid (∃ g, e = .returned (.tuple #[.pointer (some ⟨g, 0, none⟩), .int .i64 0]) ∧ w.heap.size ≤ g ∧ KeyAt w' g (nk + 6) (schedK nk (nat8 ys)) ∧ Below w.heap.size w w' ∧ ∃ R : Array Value, w'.heap[g]? = some (.cells R 160 (0, 0)))) := new_view v ys nk w hnk hl hv hb hrc hpos
  have HA : Hid (ShA B w sh S st wd zs kv mp ov) := h
  have HBB : Hid (B ≤ w.heap.size) := hB
  obtain ⟨n0, os0, hn0, ho0⟩ := hfew
  have HO0 : Hid (n0 ≤ 3 ∧ w.ownsRow B 105 1 ov n0 os0) := ⟨hn0, ho0⟩
  clear h hB hnk hl hv hb hrc hpos hn0 ho0
  obtain ⟨i0, hi0, hz0, hz1, hz2⟩ := info_parts Tryz.info105
  have HI0 : Hid (Tryz.prog.info? 105 = some i0 ∧ i0.zero = some (.pointer none) ∧ i0.size = 1 ∧ i0.bytes = 8) := ⟨hi0, hz0, hz1, hz2⟩
  clear hi0 hz0 hz1 hz2
  go_enter Tryz.func144, Tryz.ntmps144
  go_upto_region 2 with (go_at_call 54; refine HN.out.mono ?_; intro e1 w1 hh; obtain ⟨g, rfl, hg1, hK1, hb1, R1, hR1⟩ := hh.out; have HK1 : Hid (w.heap.size ≤ g ∧ KeyAt w1 g (nk + 6) (schedK nk (nat8 ys)) ∧ Below w.heap.size w w1 ∧ w1.heap[g]? = some (.cells R1 160 (0, 0))) := ⟨hg1, hK1, hb1, hR1⟩; clear hh hg1 hK1 hb1 hR1 HN)
  have HA1 : Hid (ShA B w1 sh S st wd zs kv mp ov) := HA.out.below HK1.out.2.2.1
  have HO1 : Hid (w1.ownsRow B 105 1 ov n0 os0) := ownsRow_below HO0.out.2 HK1.out.2.2.1
  have hov : (∃ x a c, ov = .slice x a c) := by
    rcases HO1.out.2 with ⟨rfl, _⟩ | ⟨g', cap, cur, rfl, _⟩
    · exact ⟨_, _, _, rfl⟩
    · exact ⟨_, _, _, rfl⟩
  obtain ⟨xa, xl, xc, rfl⟩ := hov
  have c5 : w1.cell? ⟨sh, 5, none⟩ = some (.slice xa xl xc) := HA1.out.box.cell 5 _ rfl
  have hlt : Hid (sh < w1.heap.size) := HA1.out.box.lt
  have HA2 : Hid (ShA B (w1.alloc (.cells #[.pointer (some ⟨g, 0, none⟩)] 105)) sh S st wd zs kv mp (.slice xa xl xc)) := HA1.out.below ((Below.refl _ _).alloc (Nat.le_refl _) _)
  go_wp2_with (first
    | (at_builtin; go_must (refine wpList_append_own_at _ rfl (.tmp 16) (.tmp 18) 106 rfl B 105 i0 (.pointer none) 1 8 Tryz.underlying106 HI0.out.1 HI0.out.2.1 HI0.out.2.2.1 HI0.out.2.2.2 rfl (by decide) _ n0 os0 rfl (HO1.out.alloc _) ⟨w1.heap.size, 0, none⟩ 1 1 [.pointer (some ⟨g, 0, none⟩)] rfl rfl ?_ ?_ ?_ ?_ ?_ ?_)))
  · intro j u hj
    match j, hj with
    | 0, hj => simp at hj; subst hj; simp [Addr.add]
  · intro u hu; simp at hu; subst hu; rfl
  · have := HO0.out.1; unfold maxLen; omega
  · have := HO0.out.1; omega
  · have := HBB.out; have := HK1.out.2.2.1.size; simp; omega
  intro v2 w2 hown hgrow hnil hat
  obtain ⟨hbx, hsh, hfs⟩ := HA2.out.sched hgrow hown (by have := HO0.out.1; omega) (by have := HBB.out; have := HK1.out.2.2.1.size; simp; omega)
  have hv2 : (∃ x a c, v2 = .slice x a c) := by
    rcases hown.2 with ⟨rfl, _⟩ | ⟨g', cap, cur, rfl, _⟩
    · exact ⟨_, _, _, rfl⟩
    · exact ⟨_, _, _, rfl⟩
  obtain ⟨ya, yl, yc, rfl⟩ := hv2
  have HSH : Hid (ShA B (w2.setCell ⟨sh, 5, none⟩ (.slice ya yl yc)) sh S st wd zs kv mp (.slice ya yl yc)) := hsh
  have HFS : Hid (Fs B sh (w1.alloc (.cells #[.pointer (some ⟨g, 0, none⟩)] 105)) (w2.setCell ⟨sh, 5, none⟩ (.slice ya yl yc))) := hfs
  have d5 : w2.cell? ⟨sh, 5, none⟩ = some (.slice xa xl xc) := hbx.cell 5 _ rfl
  have f5 : w2.frozen? ⟨sh, 5, none⟩ = false := hbx.frozen 5
  have HOW : Hid (w2.ownsRow B 105 1 (.slice ya yl yc) (n0 + 1) (os0 ++ [.pointer (some ⟨g, 0, none⟩)]) ∧ w2.heap[sh]? = some (.cells (shL S st kv wd mp (.slice xa xl xc)).toArray 108 (0, 0))) := ⟨hown, hbx⟩
  clear hown hgrow hnil hat hbx hsh hfs c5
  go_wp2
  go_ret
  have hF : Fs B sh w (w2.setCell ⟨sh, 5, none⟩ (.slice ya yl yc)) := (Fs.of_below HK1.out.2.2.1 HBB.out).trans ((Fs.of_below ((Below.refl _ _).alloc (Nat.le_refl _) _) (Nat.le_trans HBB.out HK1.out.2.2.1.size)).trans HFS.out)
  have hgk : (w2.setCell ⟨sh, 5, none⟩ (.slice ya yl yc)).heap[g]? = w1.heap[g]? := by
    have l : g < w1.heap.size := HK1.out.2.1.ciph.here
    have e : (w1.alloc (.cells #[.pointer (some ⟨g, 0, none⟩)] 105)).heap[g]? = w1.heap[g]? := Below.heap_alloc _ _ _ l
    rw [HFS.out.blk g (by simp; omega) (type_ne HK1.out.2.2.2 HA1.out.box (by decide)) (by rw [e, HK1.out.2.2.2]; intro cs fr q; injection q with q; injection q with _ q _; exact absurd q (by decide)), e]
  refine ⟨g, .slice ya yl yc, rfl, HK1.out.1, HK1.out.2.1.sameK hgk (Nat.le_trans (by simp) HFS.out.bel.size), ⟨R1, by rw [hgk]; exact HK1.out.2.2.2⟩, HSH.out, fun n os ho => ?_, hF⟩
  have e : n = n0 := by
    have q1 := ho.2
    have q2 := HO0.out.2.2
    rcases q1 with ⟨q, r⟩ | ⟨_, _, _, q, _⟩ <;> rcases q2 with ⟨q', r'⟩ | ⟨_, _, _, q', _⟩
    · omega
    · rw [q] at q'; cases q'
    · rw [q] at q'; cases q'
    · rw [q] at q'; injection q' with _ q' _
  subst e
  exact ⟨_, ownsRow_keep HOW.out.1 fun b q => by
    obtain ⟨cur, hc⟩ := own_type HOW.out.1 q
    exact Below.heap_setCell w2 ⟨sh, 5, none⟩ _ b (fun e => type_ne HOW.out.2 hc (by decide) e.symm)⟩
end Go.Proofs.YtcnikfikpnnblaaGreatDoor
