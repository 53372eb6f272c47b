import Derived.Test.YtgmfiljjogdccabGreatDoorPart16
import Derived.Test.YtgmfiljjogdccabGreatDoorPart15
import Derived.Test.YtgmfiljjogdccabGreatDoorEnc
import Derived.Test.YtgmfiljjogdccabGreatDoorPart00
namespace Go.Proofs.YtgmfiljjogdccabGreatDoor
open Go.RowKit Go.RwLone
set_option linter.unusedVariables false
theorem at_ok (t g n : Nat) (s0 : W4) (w : World) (h : StreamAt w t g s0 n) : Calls Tryz.prog 49 #[.pointer (some ⟨t, 0, none⟩)] w fun e w' => e = .returned (.int .u64 (n : Nat)) ∧ w' = w := by
 have c := h.pos
 clear h
 go_enter Tryz.func49, Tryz.ntmps49
 go_wp2
 go_ret
 exact ⟨rfl, rfl⟩
theorem StreamAt.touch {w w' : World} {t g n g' o m : Nat} {s0 : W4} (h : StreamAt w t g s0 n) (ht : Touch w w' g' o m) (hne : t ≠ g') : StreamAt w' t g s0 n :=
 ⟨(ht.far (p := ⟨t, 0, none⟩) h.here hne).trans h.key, fun j v hv => (ht.far (p := ⟨t, 1 + j, none⟩) h.here hne).trans (h.start j v hv), (ht.far (p := ⟨t, 17, none⟩) h.here hne).trans h.pos, fun j hj => by
  rw [ht.far (p := ⟨t, 0 + j, none⟩) h.here hne, ht.farFrozen (p := ⟨t, 0 + j, none⟩) h.here hne]; exact h.room j hj, Nat.lt_of_lt_of_le h.here ht.size, h.ok, h.most⟩
theorem StreamAt.move {w : World} {t g n : Nat} {s0 : W4} (h : StreamAt w t g s0 n) (m : Nat) (hm : m ≤ 1099511627776) : StreamAt (w.setCell ⟨t, 17, none⟩ (.int .u64 (m : Nat))) t g s0 m := by
 have ht : Touch w (w.setCell ⟨t, 17, none⟩ (.int .u64 (m : Nat))) t 17 1 := (Touch.refl w t 17 1).setCell 17 _ (by omega) (by omega)
 refine ⟨(ht.cell 0 (by omega)).trans h.key, fun j v hv => ?_, ?_, ht.there _ _ h.room, Nat.lt_of_lt_of_le h.here ht.size, h.ok, hm⟩
 ·have h16 : j < 16 := (List.getElem?_eq_some_iff.1 hv).1
  exact (ht.cell (1 + j) (by omega)).trans (h.start j v hv)
 ·have := (h.room 17 (by decide)).1
  exact World.cell?_setCell_same' _ _ _ (by simpa using this)
/-- Another cell of another block. -/
theorem KeyAt.far {w w' : World} {g nr t o m : Nat} {K : Nat → Nat} (h : KeyAt w g nr K) (ht : Touch w w' t o m) (hne : g ≠ t) : KeyAt w' g nr K := by
 have hg := h.ciph.here
 have e : ∀ j : Nat, w'.cell? ⟨g, j, none⟩ = w.cell? ⟨g, j, none⟩ := fun j => ht.far (p := ⟨g, j, none⟩) hg hne
 refine ⟨⟨(e _).trans h.ciph.rounds, fun i hi => (e _).trans (h.ciph.words i hi), h.ciph.small, ⟨fun b hb => (e _).trans (h.ciph.tab.s b hb), fun b hb => (e _).trans (h.ciph.tab.u b hb), fun b hb => (e _).trans (h.ciph.tab.m b hb), fun b hb => (e _).trans (h.ciph.tab.n b hb)⟩, Nat.lt_of_lt_of_le hg ht.size, h.ciph.some, h.ciph.most⟩, (e _).trans h.count, fun j hj => ?_⟩
 rw [e, ht.farFrozen (p := ⟨g, 0 + j, none⟩) hg hne]
 exact h.room j hj
/-- Two blocks touched, one behind the other. -/
structure Touch2 (w w' : World) (g t : Nat) : Prop where
 os : w'.os = w.os
 tape : w'.tape = w.tape
 output : w'.output = w.output
 size : w.heap.size ≤ w'.heap.size
 block : ∀ k, k < w.heap.size → k ≠ g → k ≠ t → w'.heap[k]? = w.heap[k]?
 lock : w'.cell? ⟨g, 0, none⟩ = w.cell? ⟨g, 0, none⟩
theorem Touch.left {w w' : World} {g : Nat} (h : Touch w w' g 4 1) (t : Nat) : Touch2 w w' g t := ⟨h.os, h.tape, h.output, h.size, fun k hk hg _ => h.block k hk hg, h.cell 0 (by omega)⟩
theorem Touch.right {w w' : World} {t o n : Nat} (h : Touch w w' t o n) (g : Nat) (hg : g < w.heap.size) (hne : g ≠ t) : Touch2 w w' g t := ⟨h.os, h.tape, h.output, h.size, fun k hk _ ht => h.block k hk ht, h.far (p := ⟨g, 0, none⟩) hg hne⟩
theorem Touch2.trans {a b c : World} {g t : Nat} (h : Touch2 a b g t) (k : Touch2 b c g t) : Touch2 a c g t :=
 ⟨k.os.trans h.os, k.tape.trans h.tape, k.output.trans h.output, Nat.le_trans h.size k.size, fun i hi hg ht => (k.block i (Nat.lt_of_lt_of_le hi h.size) hg ht).trans (h.block i hi hg ht), k.lock.trans h.lock⟩
theorem Below.two {w w' : World} (h : Below w.heap.size w w') (g t : Nat) (hg : g < w.heap.size) : Touch2 w w' g t := ⟨h.os, h.tape, h.output, h.size, fun k hk _ _ => h.block k hk, h.cell (p := ⟨g, 0, none⟩) hg⟩
theorem Touch2.toBelow {w w' : World} {g t B : Nat} (h : Touch2 w w' g t) (hg : B ≤ g) (ht : B ≤ t) (hB : B ≤ w.heap.size) : Below B w w' := ⟨h.os, h.tape, h.output, h.size, fun k hk => h.block k (by omega) (by omega) (by omega)⟩
/-- The key is let go, whatever else was written. -/
theorem unlock3 {w3 : World} {g nr : Nat} {K : Nat → Nat} (hc : Ciph w3 g 6 nr K) (hcnt : w3.cell? ⟨g, 4, none⟩ = some (.int .i32 1)) (hroom : w3.there g 0 1091) :
  CallsD Tryz.prog 42 #[.pointer (some ⟨g, 0, none⟩)] .returning w3 fun e u' w' => u' = .returning ∧ e = .returned (.tuple #[]) ∧ KeyAt w' g nr K ∧ Touch w3 w' g 4 1 := by
 obtain ⟨x0, c0⟩ := cell_of_there hroom 0 (by decide)
 obtain ⟨x2, c2⟩ := cell_of_there hroom 2 (by decide)
 have hz := (hroom 4 (by decide)).2
 refine (runlock_deferred rwRLib g 0 1 x0 x2 .returning w3 c0 c2 hcnt hz (by decide +kernel)).mono ?_
 rintro e u' w' ⟨rfl, rfl, hw⟩
 rw [show wrap32 (1 + -1) = 0 by decide +kernel] at hw
 have hw' : w' = w3.setCells g 4 [.int .i32 0] := hw
 have ht' : Touch w3 w' g 4 1 := by rw [hw']; exact (Touch.refl _ g 4 1).setCells 4 _ (by omega) (by simp)
 have hc' : w'.cell? ⟨g, 4, none⟩ = some (.int .i32 0) := by
  rw [hw]
  exact World.cell?_setCell_same' _ _ _ (by rw [show (0 + 4) = 4 from rfl, hcnt]; rfl)
 refine ⟨rfl, rfl, ⟨⟨(ht'.cell 6 (by omega)).trans hc.rounds, fun i hi => (ht'.cell (6 + 1 + i) (by omega)).trans (hc.words i hi), hc.small, ⟨fun b hb => (ht'.cell _ (by omega)).trans (hc.tab.s b hb), fun b hb => (ht'.cell _ (by omega)).trans (hc.tab.u b hb), fun b hb => (ht'.cell _ (by omega)).trans (hc.tab.m b hb), fun b hb => (ht'.cell _ (by omega)).trans (hc.tab.n b hb)⟩, Nat.lt_of_lt_of_le hc.here ht'.size, hc.some, hc.most⟩, hc', ht'.there _ _ hroom⟩, ht'⟩
theorem Ciph.far {w w' : World} {g q nr t o m : Nat} {K : Nat → Nat} (h : Ciph w g q nr K) (ht : Touch w w' t o m) (hne : g ≠ t) : Ciph w' g q nr K := by
 have e : ∀ j : Nat, w'.cell? ⟨g, j, none⟩ = w.cell? ⟨g, j, none⟩ := fun j => ht.far (p := ⟨g, j, none⟩) h.here hne
 exact ⟨(e _).trans h.rounds, fun i hi => (e _).trans (h.words i hi), h.small, ⟨fun b hb => (e _).trans (h.tab.s b hb), fun b hb => (e _).trans (h.tab.u b hb), fun b hb => (e _).trans (h.tab.m b hb), fun b hb => (e _).trans (h.tab.n b hb)⟩, Nat.lt_of_lt_of_le h.here ht.size, h.some, h.most⟩
theorem there_far {w w' : World} {g a n t o m : Nat} (h : w.there g a n) (hg : g < w.heap.size) (ht : Touch w w' t o m) (hne : g ≠ t) : w'.there g a n := fun j hj => by
 rw [ht.far (p := ⟨g, a + j, none⟩) hg hne, ht.farFrozen (p := ⟨g, a + j, none⟩) hg hne]; exact h j hj
set_option maxHeartbeats 1600000 in
set_option maxRecDepth 100000 in
theorem skip_ok (t g n m nr : Nat) (K : Nat → Nat) (s0 : W4) (w : World) (hk : KeyAt w g nr K) (hs : StreamAt w t g s0 n) (hne : t ≠ g) (hm : n + m ≤ 1099511627776) :
  Calls Tryz.prog 17 #[.pointer (some ⟨t, 0, none⟩), .int .u64 (m : Nat)] w fun e w' => e = .returned (.int .i64 0) ∧ KeyAt w' g nr K ∧ StreamAt w' t g s0 (n + m) ∧ Touch2 w w' g t := by
 have HK : Hid (KeyAt w g nr K) := hk
 have HS : Hid (StreamAt w t g s0 n) := hs
 have HNE : Hid (t ≠ g) := hne
 have HH : Hid (Calls Tryz.prog 41 #[.pointer (some ⟨g, 0, none⟩)] w fun e w' => e = .returned (.int .i64 0) ∧ w' = w.setCell ⟨g, 4, none⟩ (.int .i32 1)) := hold_ok g nr K w hk
 have ck := hs.key
 have hn40 := hs.most
 clear hk hs hne
 go_enter_defers Tryz.func17, Tryz.ntmps17
 go_wp2_with (first | (go_at_call 41; refine HH.out.mono ?_))
 rintro e1 w1 ⟨rfl, hw1⟩
 have H1 : Hid (Ciph w1 g 6 nr K ∧ Touch w w1 g 4 1 ∧ w1.cell? ⟨g, 4, none⟩ = some (.int .i32 1)) := held HK.out hw1
 have HS1 : Hid (StreamAt w1 t g s0 n) := HS.out.touch H1.out.2.1 HNE.out
 clear hw1 HH ck
 have ck : w1.cell? ⟨t, 0, none⟩ = some (.pointer (some ⟨g, 0, none⟩)) := HS1.out.key
 have cp : w1.cell? ⟨t, 17, none⟩ = some (.int .u64 (n : Nat)) := HS1.out.pos
 have cz : w1.frozen? ⟨t, 17, none⟩ = false := by have := (HS1.out.room 17 (by decide)).2; simpa using this
 have KL : Hid (Calls Tryz.prog 43 #[.pointer (some ⟨t, 0, none⟩)] w1 fun e w' => e = .returned (.int .u64 (1099511627776 - n : Nat)) ∧ w' = w1) := left_ok t g n s0 w1 HS1.out
 obtain ⟨lf, HLF⟩ : ∃ x, Hid (x = 1099511627776 - n) := ⟨_, rfl⟩
 rw [← HLF.out] at KL
 have hle : ((m : Nat) : Int) ≤ (lf : Nat) := by have := HLF.out; omega
 go_wp2_with (first | (go_at_call 43; refine KL.out.mono ?_; rintro e2 w2 ⟨rfl, hw2⟩; obtain rfl := hw2.symm))
 rw [show ((n : Int) + (m : Int)) = ((n + m : Nat) : Int) by omega]
 have HT3 : Hid (Touch w1 (w1.setCell ⟨t, 17, none⟩ (.int .u64 (n + m : Nat))) t 17 1) := (Touch.refl w1 t 17 1).setCell 17 _ (by omega) (by omega)
 have HS3 : Hid (StreamAt (w1.setCell ⟨t, 17, none⟩ (.int .u64 (n + m : Nat))) t g s0 (n + m)) := HS1.out.move (n + m) hm
 generalize w1.setCell ⟨t, 17, none⟩ (.int .u64 (n + m : Nat)) = w3 at HT3 HS3 ⊢
 have hgt : g ≠ t := fun e => HNE.out e.symm
 have hg1 := H1.out.1.here
 refine leaves_cons (f := 42) (args := #[.pointer (some ⟨g, 0, none⟩)]) (by simp) (by simp [go_sem]) ?_
 refine (unlock3 (H1.out.1.far HT3.out hgt) ((HT3.out.far (p := ⟨g, 4, none⟩) hg1 hgt).trans H1.out.2.2) (there_far (H1.out.2.1.there _ _ HK.out.room) hg1 HT3.out hgt)).mono ?_
 rintro e5 u5 w5 ⟨rfl, rfl, hk5, ht5⟩
 exact ⟨_, results_tmp rfl _ _ _, rfl, hk5, HS3.out.touch ht5 HNE.out, ((H1.out.2.1.left t).trans (HT3.out.right g hg1 hgt)).trans (ht5.left t)⟩
end Go.Proofs.YtgmfiljjogdccabGreatDoor
namespace Go.Proofs.YtgmfiljjogdccabGreatDoor
open Go.RowKit
set_option linter.unusedVariables false
theorem xor64 (a b : Nat) (ha : a < 18446744073709551616) (hb : b < 18446744073709551616) : bits .xor .u64 (a : Int) b = (Nat.xor a b : Nat) := bits_xor .u64 64 (by decide) wraps_u64 a b ha hb
/-- What wrapping makes of the bytes f: A and the halves. -/
def wrapF (nr : Nat) (K : Nat → Nat) (n : Nat) (f : Nat → Nat) (k : Nat) : Nat × (Nat → Nat) := fore (wrStep nr K n) (12008468691120727718, halfs f) k
theorem wrapF_succ (nr : Nat) (K : Nat → Nat) (n : Nat) (f : Nat → Nat) (k : Nat) : wrapF nr K n f (k + 1) = wrStep nr K n k (wrapF nr K n f k) := fore_succ _ _ _
set_option maxHeartbeats 1600000 in
set_option maxRecDepth 100000 in
theorem wrap_ok (g o nr n b po cap : Nat) (K : Nat → Nat) (f : Nat → Nat) (w : World) (hC : Ciph w g o nr K) (hn : 1 ≤ n) (hm : n ≤ 1048576) (hcap : 8 * n ≤ cap) (hb : b < w.heap.size) (hp : ∀ i, i < 8 * n → w.cell? ⟨b, po + i, none⟩ = some (.int .u8 (f i : Nat))) (hf : ∀ i, f i < 256) :
  Calls Tryz.prog 56 #[.pointer (some ⟨g, o, none⟩), .slice (some ⟨b, po, none⟩) (8 * n) cap] w fun e w' => e = .returned (.slice (some ⟨w.heap.size, 0, none⟩) (8 + 8 * n) (8 + 8 * n)) ∧ Halves w' w.heap.size 8 n (wrapF nr K n f (6 * n)).2 ∧ (∀ k, k < 8 → w'.cell? ⟨w.heap.size, k, none⟩ = some (.int .u8 (byteK (wrapF nr K n f (6 * n)).1 k : Nat))) ∧ Below w.heap.size w w' := by
 obtain ⟨i0, hi, hz0, hz1, hz2⟩ := info_parts Tryz.info5
 have HP : Hid (∀ i, i < 8 * n → w.cell? ⟨b, po + i, none⟩ = some (.int .u8 (f i : Nat))) := hp
 have HF : Hid (∀ i, f i < 256) := hf
 have HC : Hid (Ciph w g o nr K) := hC
 have HR : Hid (Rok (12008468691120727718, halfs f)) := ⟨show 12008468691120727718 < 18446744073709551616 by decide, halfs_lt hf⟩
 have HBB : Hid (b < w.heap.size) := hb
 obtain ⟨m, HM⟩ : ∃ m, Hid (m = 8 * n) := ⟨_, rfl⟩
 have hmd : ((m : Nat) : Int) / 8 = (n : Nat) := by have := HM.out; omega
 rw [← HM.out] at hcap ⊢
 have hml : m ≤ 8388608 := by have := HM.out; omega
 obtain ⟨q, HQ⟩ : ∃ q, Hid (q = 8 + m) := ⟨_, rfl⟩
 have hqi : (8 : Int) + (m : Nat) = (q : Nat) := by have := HQ.out; omega
 have hql : q ≤ 8388616 := by have := HQ.out; omega
 have hq8 : 8 ≤ q := by omega
 have hqm : q - 8 = m := by have := HQ.out; omega
 rw [← HQ.out]
 obtain ⟨CS, HCS⟩ : ∃ cs, Hid (cs = (List.range (8 * n)).map fun i => Value.int .u8 (f i : Nat)) := ⟨_, rfl⟩
 have HCL : Hid (CS.length = m) := by show _ = _; rw [HCS.out, HM.out]; simp
 clear hp hf hC hb
 go_enter Tryz.func56, Tryz.ntmps56
 go_wp2_with (first
  | (at_make; go_must (refine wpList_make_full _ rfl _ _ 22 rfl w.heap.size 5 i0 (.int .u8 0) 1 Tryz.underlying22 hi hz0 hz1 .i64 .i64 (q : Nat) (q : Nat) q rfl rfl rfl rfl ?_ ?_ ?_ ?_)))
 ·rw [hz2]; omega
 ·unfold maxLen; omega
 ·exact Nat.le_refl _
 intro w1 hown hgr
 have HB1 : Hid (Below w.heap.size w w1) := (Below.refl _ _).grown hgr (Nat.le_refl _) (by intro k hk; cases hk)
 obtain ⟨cur, HG, HZ⟩ : ∃ cur : Array Value, Hid (w1.heap[w.heap.size]? = some (.cells cur 5 (0, 0))) ∧ Hid (cur.size = q) := by
  obtain ⟨_, ⟨h, _⟩ | ⟨g', c', cur, h, _, h2, _, _, h5, _⟩⟩ := hown
  ·cases h
  ·cases h; exact ⟨cur, h2, by show _ = _; omega⟩
 clear hown hgr
 obtain ⟨w2, HW2⟩ : ∃ w2, Hid (w2 = w1.setRow w.heap.size (cur.toList.take 8 ++ (CS ++ cur.toList.drop (8 + CS.length))).toArray) := ⟨_, rfl⟩
 have hcp : Sem.run Tryz.prog (Builtin.copy_ #[22, 22] 3 #[.slice (some ⟨w.heap.size, 8, none⟩) m m, .slice (some ⟨b, po, none⟩) m cap]) w1 = .ok (.int .i64 (m : Nat)) w2 := by
  have h := run_copy_row (P := Tryz.prog) w1 22 22 3 5 w.heap.size 8 m m ⟨b, po, none⟩ m cap cur 5 CS Tryz.underlying22 (by rw [hi]; simp [hz1]) HG.out (by rw [HCL.out]; exact (Nat.min_self m).symm) (by
   intro j v hv
   rw [HCS.out] at hv
   simp at hv
   obtain ⟨j', h1, rfl⟩ := hv
   obtain ⟨h2, h3⟩ := List.getElem?_eq_some_iff.1 h1
   simp at h2 h3
   subst h3
   rw [Addr.add_mid, HB1.out.cell HBB.out]
   exact HP.out j h2) (by rw [HCL.out, HZ.out]; have := HQ.out; omega) (by
   intro v hv
   rw [HCS.out] at hv
   simp at hv
   obtain ⟨j, _, rfl⟩ := hv
   rfl)
  rw [HW2.out]
  rw [HCL.out] at h ⊢
  rw [List.append_assoc] at h
  exact h
 have HH : Hid (Halves w2 w.heap.size 8 n (halfs f)) := by show Halves _ _ _ _ _; rw [HW2.out]; exact halves_copied cur f HF.out CS HCS.out (by rw [HZ.out, HQ.out, HM.out]) HG.out
 have HB2 : Hid (Below w.heap.size w w2) := by show Below _ _ _; rw [HW2.out]; exact below_setRow HB1.out (Nat.le_refl _) _
 clear HG HZ HB1 HP HBB
 go_wp2
 go_loopw [7, 25] (fun a i wr => ∃ k A : Nat, k ≤ 6 * n ∧ i = .int .i64 k ∧ a = .int .u64 (A : Nat) ∧ Hid (A = (wrapF nr K n f k).1) ∧ Hid (Halves wr w.heap.size 8 n (wrapF nr K n f k).2) ∧ Hid (Below w.heap.size w wr)) (fun _ i _ => 6 * n - (intOf i).toNat)
 case atStart => exact ⟨0, 12008468691120727718, by omega, rfl, rfl, rfl, HH, HB2⟩
 case round =>
  obtain ⟨k, A, hk, rfl, rfl, HA, HH3, HB3⟩ := hrel
  clear HH HB2 hcp
  have HW : Hid (Rok (wrapF nr K n f k)) := fore_all (wrStep nr K n) Rok 4294967296 (fun k x hk hx => wrStep_ok HC.out.small nr n k hk hx) _ HR.out k (by omega)
  have HAl : Hid (A < 18446744073709551616) := by have := HW.out.1; rw [← HA.out] at this; exact this
  by_cases hlt : k < 6 * n
  ·obtain ⟨i, HI⟩ : ∃ i, Hid (i = k % n) := ⟨_, rfl⟩
   have hil : i < n := by rw [HI.out]; exact Nat.mod_lt _ (by omega)
   have hmod : ((k : Nat) : Int) % ((n : Nat) : Int) = (i : Nat) := by rw [HI.out]; simp
   obtain ⟨j, HJ⟩ : ∃ j, Hid (j = 8 + 8 * i) := ⟨_, rfl⟩
   have hji : (8 : Int) + 8 * (i : Nat) = (j : Nat) := by have := HJ.out; omega
   have hjq : j + 8 ≤ q := by have h1 := HJ.out; have h2 := HQ.out; have h3 := HM.out; omega
   obtain ⟨r, HRr⟩ : ∃ r, Hid (r = (wrapF nr K n f k).2 i) := ⟨_, rfl⟩
   have HRl : Hid (r < 18446744073709551616) := by show _ < _; rw [HRr.out]; exact HW.out.2 i
   have KN : Hid (Calls Tryz.prog 88 #[.slice (some ⟨w.heap.size, j, none⟩) (q - j) (q - j)] wr fun e w' => e = .returned (.int .u64 (r : Nat)) ∧ w' = wr) := by
    have h := number_ok w.heap.size j (q - j) (q - j) (byteK r) wr (by omega) (Nat.le_refl _) (fun k hk => by rw [HJ.out, HRr.out]; exact HH3.out.cell i k hil hk) (byteK_lt r)
    rw [numK_byteK r HRl.out] at h
    exact h
   obtain ⟨S, HS⟩ : ∃ S, Hid (S = joinW A r) := ⟨_, rfl⟩
   obtain ⟨T, HT⟩ : ∃ T, Hid (T = encW nr K S) := ⟨_, rfl⟩
   have HSo : Hid S.ok := by show S.ok; rw [HS.out]; exact joinW_ok HAl.out HRl.out
   have HTo : Hid T.ok := by show T.ok; rw [HT.out]; exact encW_ok HC.out.small nr S
   have KJ : Hid (∀ u, Calls Tryz.prog 78 #[.int .u64 (A : Nat), .int .u64 (r : Nat)] u fun e u' => e = .returned S.blk ∧ Below u.heap.size u u') := fun u => by rw [HS.out]; exact join_ok A r HAl.out HRl.out u
   obtain ⟨hv, HHV⟩ : ∃ x, Hid (x = T.a * 4294967296 + T.b) := ⟨_, rfl⟩
   obtain ⟨lv, HLV⟩ : ∃ x, Hid (x = T.c * 4294967296 + T.d) := ⟨_, rfl⟩
   have KH : Hid (∀ u, Calls Tryz.prog 76 #[T.blk] u fun e u' => e = .returned (.tuple #[.int .u64 (hv : Nat), .int .u64 (lv : Nat)]) ∧ Below u.heap.size u u') := fun u => by rw [HHV.out, HLV.out]; exact halves_ok T HTo.out u
   have HHl : Hid (hv < 18446744073709551616) := by show _ < _; rw [HHV.out]; exact W4.hi_lt HTo.out
   have HLl : Hid (lv < 18446744073709551616) := by show _ < _; rw [HLV.out]; exact W4.lo_lt HTo.out
   obtain ⟨A', HA'⟩ : ∃ x, Hid (x = Nat.xor hv (k + 1)) := ⟨_, rfl⟩
   have hx : bits .xor .u64 ((hv : Nat) : Int) (((k : Nat) : Int) + 1) = (A' : Nat) := by rw [HA'.out]; exact xor64 hv (k + 1) HHl.out (by omega)
   have KE : Hid (∀ u, Below wr.heap.size wr u → Calls Tryz.prog 44 #[.pointer (some ⟨g, o, none⟩), S.blk] u fun e u' => e = .returned T.blk ∧ Below u.heap.size u u') := fun u hb => by
    rw [HT.out]
    exact enc_ok g o nr K S u ((HC.out.below HB3.out HC.out.here).below hb (Nat.lt_of_lt_of_le HC.out.here HB3.out.size)) HSo.out
   generalize hSb : S.blk = sb at KJ KE
   generalize hTb : T.blk = tb at KE KH
   have HSb : Hid (S.blk = sb) := hSb
   have HTb : Hid (T.blk = tb) := hTb
   clear hSb hTb
   go_wp2_with (first | (go_at_call 88; refine KN.out.mono ?_))
   rintro e1 w1' ⟨rfl, rfl⟩
   go_wp2_with (first | (go_at_call 78; refine (KJ.out _).mono ?_))
   rintro e2 u2 ⟨rfl, hb2⟩
   have HU2 : Hid (Below w1'.heap.size w1' u2) := hb2
   clear hb2
   go_wp2_with (first | (go_at_call 44; refine (KE.out _ HU2.out).mono ?_))
   rintro e3 u3 ⟨rfl, hb3⟩
   have HU3 : Hid (Below w1'.heap.size w1' u3) := HU2.out.trans (hb3.mono HU2.out.size)
   clear hb3 HU2
   go_wp2_with (first | (go_at_call 76; refine (KH.out _).mono ?_))
   rintro e4 u4 ⟨rfl, hb4⟩
   have HU4 : Hid (Below w1'.heap.size w1' u4) := HU3.out.trans (hb4.mono HU3.out.size)
   clear hb4 HU3
   have HH4 : Hid (Halves u4 w.heap.size 8 n (wrapF nr K n f k).2) := HH3.out.below HU4.out HH3.out.here
   have HB4 : Hid (Below w.heap.size w u4) := HB3.out.trans (HU4.out.mono HB3.out.size)
   have KP : Hid (Calls Tryz.prog 89 #[.slice (some ⟨w.heap.size, j, none⟩) (q - j) (q - j), .int .u64 (lv : Nat)] u4 fun e w' => e = .returned (.tuple #[]) ∧ Touch u4 w' w.heap.size j 8 ∧ ∀ k, k < 8 → w'.cell? ⟨w.heap.size, j + k, none⟩ = some (.int .u8 (byteK lv k : Nat))) :=
    put_ok w.heap.size j (q - j) (q - j) lv u4 (by omega) HLl.out (there_mid (a := 0) HH4.out.room j 8 (by have h1 := HJ.out; omega))
   go_wp2_with (first | (go_at_call 89; refine KP.out.mono ?_))
   rintro e5 u5 ⟨rfl, ht5, hc5⟩
   have HH5 : Hid (Halves u5 w.heap.size 8 n (wrapF nr K n f (k + 1)).2) := by
    have h := HH4.out.put i lv hil (by rw [← HJ.out]; exact ht5) (by rw [← HJ.out]; exact hc5)
    show Halves _ _ _ _ _
    rw [wrapF_succ]
    show Halves u5 w.heap.size 8 n (setR (wrapF nr K n f k).2 (k % n) (encW nr K (joinW (wrapF nr K n f k).1 ((wrapF nr K n f k).2 (k % n)))).lo)
    rw [← HI.out, ← HRr.out, ← HA.out, ← HS.out, ← HT.out]
    rw [HLV.out] at h
    exact h
   have HB5 : Hid (Below w.heap.size w u5) := HB4.out.trans (ht5.toBelow (Nat.le_refl _) HB4.out.size)
   have HA5 : Hid (A' = (wrapF nr K n f (k + 1)).1) := by
    show _ = _
    rw [wrapF_succ]
    show _ = (encW nr K (joinW (wrapF nr K n f k).1 ((wrapF nr K n f k).2 (k % n)))).hi ^^^ (k + 1)
    rw [← HI.out, ← HRr.out, ← HA.out, ← HS.out, ← HT.out, HA'.out, HHV.out]
    rfl
   clear ht5 hc5
   go_wp2
   go_roundw
   case rel => exact ⟨k + 1, A', by omega, by go_num, rfl, HA5, HH5, HB5⟩
   case measure => simp [intOf]; omega
  ·obtain rfl : k = 6 * n := by omega
   have KP : Hid (Calls Tryz.prog 89 #[.slice (some ⟨w.heap.size, 0, none⟩) q q, .int .u64 (A : Nat)] wr fun e w' => e = .returned (.tuple #[]) ∧ Touch wr w' w.heap.size 0 8 ∧ ∀ k, k < 8 → w'.cell? ⟨w.heap.size, 0 + k, none⟩ = some (.int .u8 (byteK A k : Nat))) :=
    put_ok w.heap.size 0 q q A wr hq8 HAl.out (there_mid (a := 0) HH3.out.room 0 8 (by omega))
   go_wp2_with (first | (go_at_call 89; refine KP.out.mono ?_))
   rintro e5 u5 ⟨rfl, ht5, hc5⟩
   have HE : Hid (Halves u5 w.heap.size 8 n (wrapF nr K n f (6 * n)).2 ∧ (∀ k, k < 8 → u5.cell? ⟨w.heap.size, k, none⟩ = some (.int .u8 (byteK (wrapF nr K n f (6 * n)).1 k : Nat))) ∧ Below w.heap.size w u5) := by
    refine ⟨⟨Nat.lt_of_lt_of_le HH3.out.here ht5.size, ht5.there _ _ HH3.out.room, fun i k hi hk => ?_⟩, fun k hk => ?_, HB3.out.trans (ht5.toBelow (Nat.le_refl _) HB3.out.size)⟩
    ·rw [ht5.cell _ (by omega)]; exact HH3.out.cell i k hi hk
    ·have h := hc5 k hk
     rw [Nat.zero_add, HA.out] at h
     exact h
   clear ht5 hc5
   go_wp2
   go_ret
   exact ⟨rfl, HE.out⟩
end Go.Proofs.YtgmfiljjogdccabGreatDoor
