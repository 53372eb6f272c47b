import Derived.Test.YtcnikfikpnnblaaGreatDoorPart39
namespace Go.Proofs.YtcnikfikpnnblaaGreatDoor
open Go.RowKit
set_option linter.unusedVariables false
set_option linter.unusedSimpArgs false
/-- What fit makes. -/
def ftZ (bs : List Int) (i : Nat) : Int := if bs = [] then ((i * i % 256 : Nat) : Int) else bs.getD (i % bs.length) 0
def ftL (bs : List Int) (m : Nat) : List Int := (List.range m).map (ftZ bs)
theorem ftL_len (bs : List Int) (m : Nat) : (ftL bs m).length = m := by simp [ftL]
theorem ftL_succ (bs : List Int) (m : Nat) : ftL bs (m + 1) = ftL bs m ++ [ftZ bs m] := by simp [ftL, List.range_succ]
theorem ftL_bytes {bs : List Int} (h : AllBytes bs) (m : Nat) : AllBytes (ftL bs m) := fun i => by
 rw [List.getD_eq_getElem?_getD, ftL, List.getElem?_map]
 cases (List.range m)[i]? with
 | none => simp
 | some q =>
  simp only [Option.map_some, Option.getD_some, ftZ]
  split
  ·omega
  ·exact h _
structure FtI (w : World) (bs : List Int) (wr : World) (v : Value) (k : Nat) : Prop where
 own : wr.ownsRow w.heap.size 5 1 v k (cellsU8 (ftL bs k))
 bel : Below w.heap.size w wr
theorem FtI.step {w : World} {bs : List Int} {wr w2 : World} {v v2 : Value} {k : Nat} {z : Int} (h : FtI w bs wr v k) (o : Obj) (hz : ftZ bs k = z) (ho : w2.ownsRow w.heap.size 5 1 v2 (k + 1) (cellsU8 (ftL bs k) ++ [.int .u8 z])) (hg : (wr.alloc o).grownBy w2 v.ownBlock) : FtI w bs w2 v2 (k + 1) := by
 have hb : Below w.heap.size wr w2 := ((Below.refl w.heap.size wr).alloc h.bel.size o).grown hg (by have := h.bel.size; simp; omega) (fun q hq => (ownsRow_lt h.own hq).1)
 refine ⟨?_, h.bel.trans hb⟩
 rw [ftL_succ, hz, cellsU8_append]
 exact ho
/-- The number of bytes. -/
def ftN (n : Int) (whole : Bool) : Nat := let s := 16 + (IntKind.u64.wrap n % 497).toNat; if whole then s / 16 * 16 else s
theorem ft_num (x : Int) (s : Nat) (h0 : 0 ≤ x) (hs : x % 497 = (s : Int)) : s < 497 ∧ x.tmod 497 = (s : Int) ∧ IntKind.i64.wrap (s : Int) = (s : Int) ∧ IntKind.i64.wrap (16 + (s : Int)) = 16 + (s : Int) ∧ wrap64 (16 + (s : Int)) = 16 + (s : Int) ∧ (16 + (s : Int)).tdiv 16 = (((16 + s) / 16 : Nat) : Int) ∧ IntKind.i64.wrap (((16 + s) / 16 : Nat) : Int) = (((16 + s) / 16 : Nat) : Int) ∧ IntKind.i64.wrap ((((16 + s) / 16 : Nat) : Int) * 16) = (((16 + s) / 16 * 16 : Nat) : Int) ∧ (16 + s) / 16 * 16 ≤ 512 := by
 have h1 : s < 497 := by omega
 refine ⟨h1, ?_, ?_, ?_, ?_, ?_, ?_, ?_, by omega⟩
 ·rw [Int.tmod_eq_emod_of_nonneg h0]; exact hs
 ·rw [IntKind.wrap_i64]; omega
 ·rw [IntKind.wrap_i64]; omega
 ·unfold wrap64; omega
 ·rw [Int.tdiv_eq_ediv_of_nonneg (by omega)]; omega
 ·rw [IntKind.wrap_i64]; omega
 ·rw [IntKind.wrap_i64]; omega
theorem ft_sq (k : Nat) (hk : k ≤ 600) : IntKind.i64.wrap ((k : Int) * (k : Int)) = (k : Int) * (k : Int) ∧ IntKind.u8.wrap ((k : Int) * (k : Int)) = ((k * k % 256 : Nat) : Int) := by
 have h : k * k ≤ 600 * 600 := Nat.mul_le_mul hk hk
 obtain ⟨m, hm⟩ : ∃ m, k * k = m := ⟨_, rfl⟩
 have e : (k : Int) * (k : Int) = (m : Int) := by rw [← hm]; simp
 rw [hm] at h
 rw [e, hm, IntKind.wrap_i64, IntKind.wrap_u8]
 clear e hm hk
 constructor <;> omega
set_option maxHeartbeats 1600000 in
set_option maxRecDepth 100000 in
/-- fit. -/
theorem fit_ok (v : Value) (bs : List Int) (nn : Int) (wh : Bool) (w : World) (hv : View w v bs) :
  Calls Tryz.prog 28 #[v, .int .i64 nn, .bool wh] w fun e w' => Hid (∃ y d, e = .returned (.slice y (ftN nn wh) d) ∧ w'.ownsRow w.heap.size 5 1 (.slice y (ftN nn wh) d) (ftN nn wh) (cellsU8 (ftL bs (ftN nn wh))) ∧ Below w.heap.size w w') := by
 obtain ⟨i0, hi, hz0, hz1, hz2⟩ := info_parts Tryz.info5
 have HI0 : Hid (Tryz.prog.info? 5 = some i0 ∧ i0.zero = some (.int .u8 0) ∧ i0.size = 1 ∧ i0.bytes = 1) := ⟨hi, hz0, hz1, hz2⟩
 clear hi hz0 hz1 hz2
 obtain ⟨x, hxx⟩ : ∃ x, IntKind.u64.wrap nn = x := ⟨_, rfl⟩
 have hx0 : 0 ≤ x := by rw [← hxx]; unfold IntKind.wrap; simp [IntKind.signed, IntKind.bits]; omega
 obtain ⟨s, hs⟩ : ∃ s : Nat, x % 497 = (s : Int) := ⟨(x % 497).toNat, by omega⟩
 obtain ⟨hs1, htm, es, e16, w16, hq, eq1, eq2, hle⟩ := ft_num x s hx0 hs
 have HSZ : Hid (ftN nn wh = if wh then (16 + s) / 16 * 16 else 16 + s) := by unfold ftN; rw [hxx, hs]; rfl
 have e497 : IntKind.u64.wrap 497 = 497 := by decide
 obtain ⟨a, c, rfl, h1, h2, h3, h4⟩ := hv
 obtain ⟨n, HNL⟩ : ∃ n, Hid (bs.length = n) := ⟨_, rfl⟩
 rw [HNL.out] at h1 ⊢
 have HCC : Hid (bs = [] ∨ ∃ b off, a = some ⟨b, off, none⟩ ∧ ∀ i, i < bs.length → w.cell? ⟨b, off + i, none⟩ = some (.int .u8 (bs.getD i 0))) := h4
 clear h1 h2 h3 h4 hs hx0
 obtain ⟨kz, HKZ⟩ : ∃ kz, Hid (ftN nn wh = kz) := ⟨_, rfl⟩
 have hkz : kz ≤ 600 := by rw [← HKZ.out, HSZ.out]; split <;> omega
 rw [HKZ.out] at HSZ ⊢
 cases wh
 ·go_enter Tryz.func28, Tryz.ntmps28
  go_upto_region 2 with fail
  have hkk : (16 : Int) + (s : Int) = (kz : Int) := by have := HSZ.out; simp at this; omega
  rw [hkk]
  clear hkk
  go_upto_region 6 with fail
  go_loopw [8, 9] (fun v vi wr => ∃ k : Nat, vi = .int .i64 (k : Nat) ∧ k ≤ kz ∧ Hid (FtI w bs wr v k)) (fun _ vi _ => kz - (intOf vi).toNat)
  case atStart => exact ⟨0, rfl, by omega, World.ownsRow_nil _ _ _ _, Below.refl _ _⟩
  case round =>
   obtain ⟨k, rfl, hk, HR⟩ := hrel
   by_cases hlt : k < kz
   ·have g1 : (k : Int) < (kz : Int) := by omega
    have HLM : Hid (w.heap.size ≤ wr.heap.size) := HR.out.bel.size
    by_cases hb0 : bs = []
    ·have HB0 : Hid (bs = []) := hb0
     have hn0 : n = 0 := by have := HNL.out; rw [hb0] at this; simpa using this.symm
     clear hb0
     subst hn0
     obtain ⟨z, HZ⟩ : ∃ z : Int, Hid (z = ((k * k % 256 : Nat) : Int)) := ⟨_, rfl⟩
     obtain ⟨hw7, hz⟩ := ft_sq k (by omega)
     rw [← HZ.out] at hz
     go_wp2_with (first
      | (at_builtin; go_must (refine wpList_append_own _ rfl (.tmp 27) (.tmp 32) 24 rfl w.heap.size 5 i0 (.int .u8 0) 1 1 Tryz.underlying24 HI0.out.1 HI0.out.2.1 HI0.out.2.2.1 HI0.out.2.2.2 rfl (by decide) _ _ _ rfl (HR.out.own.alloc _) ⟨wr.heap.size, 0, none⟩ 1 1 [.int .u8 z] rfl rfl (one_cell wr _ 5) (one_u8 z) (by unfold maxLen; omega) (by omega) (by have := HLM.out; simp; omega) ?_; intro v2 w2 hown hgrow hnil; have HX : Hid (FtI w bs w2 v2 (k + 1)) := HR.out.step _ (by rw [ftZ, if_pos HB0.out, HZ.out]) hown hgrow; clear hown hgrow hnil)))
     exact ⟨⟨k + 1, by simp, by omega, HX⟩, by simp [intOf]; omega⟩
    ·obtain ⟨b, off, rfl, hcell⟩ := HCC.out.resolve_left hb0
     have HB0 : Hid (bs ≠ []) := hb0
     have hn1 : 0 < n := by have := HNL.out; cases bs with | nil => exact absurd rfl hb0 | cons _ _ => simp at this; omega
     clear hb0
     obtain ⟨q, HQ⟩ : ∃ q : Nat, Hid (q = k % n) := ⟨_, rfl⟩
     have hqn : q < n := by rw [HQ.out]; exact Nat.mod_lt _ hn1
     obtain ⟨z, HZ⟩ : ∃ z : Int, Hid (bs.getD q 0 = z) := ⟨_, rfl⟩
     have HCL : Hid (∀ u : World, Below w.heap.size w u → u.cell? ⟨b, off + q, none⟩ = some (.int .u8 z)) := fun u hu => by
      have p := hcell q (by rw [HNL.out]; exact hqn)
      rw [hu.cell (World.block_lt_of_cell? w _ p), p, HZ.out]
     have c1 := HCL.out wr HR.out.bel
     clear hcell
     have hmod : (k : Int).tmod (n : Int) = (q : Int) := by rw [HQ.out, Int.tmod_eq_emod_of_nonneg (Int.natCast_nonneg _)]; rfl
     have hne : ((n : Int) == 0) = false := by simp; omega
     have hn2 : (n : Int) ≠ 0 := by omega
     have k0 : (0 : Int) ≤ (q : Int) := by omega
     have k1 : (q : Int) < (n : Int) := by omega
     have hn3 : ¬ n = 0 := by omega
     go_wp2_with (first
      | (at_builtin; go_must (refine wpList_append_own _ rfl (.tmp 34) (.tmp 42) 24 rfl w.heap.size 5 i0 (.int .u8 0) 1 1 Tryz.underlying24 HI0.out.1 HI0.out.2.1 HI0.out.2.2.1 HI0.out.2.2.2 rfl (by decide) _ _ _ rfl (HR.out.own.alloc _) ⟨wr.heap.size, 0, none⟩ 1 1 [.int .u8 z] rfl rfl (one_cell wr _ 5) (one_u8 z) (by unfold maxLen; omega) (by omega) (by have := HLM.out; simp; omega) ?_; intro v2 w2 hown hgrow hnil; have HX : Hid (FtI w bs w2 v2 (k + 1)) := HR.out.step _ (by rw [ftZ, if_neg HB0.out, HNL.out, ← HQ.out, HZ.out]) hown hgrow; clear hown hgrow hnil)))
     exact ⟨⟨k + 1, by simp, by omega, HX⟩, by simp [intOf]; omega⟩
   ·have g1 : ¬ (k : Int) < (kz : Int) := by omega
    have HF : Hid (wr.ownsRow w.heap.size 5 1 u8 kz (cellsU8 (ftL bs kz)) ∧ Below w.heap.size w wr) := by
     obtain ⟨p1, p3⟩ := HR.out
     rw [show k = kz by omega] at p1
     exact ⟨p1, p3⟩
    clear HR
    have hk0 : 0 < kz := by have := HSZ.out; first | (simp at this; omega) | omega
    obtain ⟨xg, xc, rfl⟩ : ∃ g c, u8 = .slice (some ⟨g, 0, none⟩) kz c := by
     rcases HF.out.1.2 with ⟨_, q⟩ | ⟨g, c, _, q, _⟩
     ·omega
     ·exact ⟨g, c, q⟩
    go_wp2
    go_ret
    exact ⟨_, xc, rfl, HF.out.1, HF.out.2⟩
 ·go_enter Tryz.func28, Tryz.ntmps28
  go_upto_region 4 with fail
  have hkk : ((s : Int) / 16 + 1) * 16 = (kz : Int) := by have := HSZ.out; simp at this; omega
  rw [hkk]
  clear hkk
  go_upto_region 6 with fail
  go_loopw [8, 9] (fun v vi wr => ∃ k : Nat, vi = .int .i64 (k : Nat) ∧ k ≤ kz ∧ Hid (FtI w bs wr v k)) (fun _ vi _ => kz - (intOf vi).toNat)
  case atStart => exact ⟨0, rfl, by omega, World.ownsRow_nil _ _ _ _, Below.refl _ _⟩
  case round =>
   obtain ⟨k, rfl, hk, HR⟩ := hrel
   by_cases hlt : k < kz
   ·have g1 : (k : Int) < (kz : Int) := by omega
    have HLM : Hid (w.heap.size ≤ wr.heap.size) := HR.out.bel.size
    by_cases hb0 : bs = []
    ·have HB0 : Hid (bs = []) := hb0
     have hn0 : n = 0 := by have := HNL.out; rw [hb0] at this; simpa using this.symm
     clear hb0
     subst hn0
     obtain ⟨z, HZ⟩ : ∃ z : Int, Hid (z = ((k * k % 256 : Nat) : Int)) := ⟨_, rfl⟩
     obtain ⟨hw7, hz⟩ := ft_sq k (by omega)
     rw [← HZ.out] at hz
     go_wp2_with (first
      | (at_builtin; go_must (refine wpList_append_own _ rfl (.tmp 27) (.tmp 32) 24 rfl w.heap.size 5 i0 (.int .u8 0) 1 1 Tryz.underlying24 HI0.out.1 HI0.out.2.1 HI0.out.2.2.1 HI0.out.2.2.2 rfl (by decide) _ _ _ rfl (HR.out.own.alloc _) ⟨wr.heap.size, 0, none⟩ 1 1 [.int .u8 z] rfl rfl (one_cell wr _ 5) (one_u8 z) (by unfold maxLen; omega) (by omega) (by have := HLM.out; simp; omega) ?_; intro v2 w2 hown hgrow hnil; have HX : Hid (FtI w bs w2 v2 (k + 1)) := HR.out.step _ (by rw [ftZ, if_pos HB0.out, HZ.out]) hown hgrow; clear hown hgrow hnil)))
     exact ⟨⟨k + 1, by simp, by omega, HX⟩, by simp [intOf]; omega⟩
    ·obtain ⟨b, off, rfl, hcell⟩ := HCC.out.resolve_left hb0
     have HB0 : Hid (bs ≠ []) := hb0
     have hn1 : 0 < n := by have := HNL.out; cases bs with | nil => exact absurd rfl hb0 | cons _ _ => simp at this; omega
     clear hb0
     obtain ⟨q, HQ⟩ : ∃ q : Nat, Hid (q = k % n) := ⟨_, rfl⟩
     have hqn : q < n := by rw [HQ.out]; exact Nat.mod_lt _ hn1
     obtain ⟨z, HZ⟩ : ∃ z : Int, Hid (bs.getD q 0 = z) := ⟨_, rfl⟩
     have HCL : Hid (∀ u : World, Below w.heap.size w u → u.cell? ⟨b, off + q, none⟩ = some (.int .u8 z)) := fun u hu => by
      have p := hcell q (by rw [HNL.out]; exact hqn)
      rw [hu.cell (World.block_lt_of_cell? w _ p), p, HZ.out]
     have c1 := HCL.out wr HR.out.bel
     clear hcell
     have hmod : (k : Int).tmod (n : Int) = (q : Int) := by rw [HQ.out, Int.tmod_eq_emod_of_nonneg (Int.natCast_nonneg _)]; rfl
     have hne : ((n : Int) == 0) = false := by simp; omega
     have hn2 : (n : Int) ≠ 0 := by omega
     have k0 : (0 : Int) ≤ (q : Int) := by omega
     have k1 : (q : Int) < (n : Int) := by omega
     have hn3 : ¬ n = 0 := by omega
     go_wp2_with (first
      | (at_builtin; go_must (refine wpList_append_own _ rfl (.tmp 34) (.tmp 42) 24 rfl w.heap.size 5 i0 (.int .u8 0) 1 1 Tryz.underlying24 HI0.out.1 HI0.out.2.1 HI0.out.2.2.1 HI0.out.2.2.2 rfl (by decide) _ _ _ rfl (HR.out.own.alloc _) ⟨wr.heap.size, 0, none⟩ 1 1 [.int .u8 z] rfl rfl (one_cell wr _ 5) (one_u8 z) (by unfold maxLen; omega) (by omega) (by have := HLM.out; simp; omega) ?_; intro v2 w2 hown hgrow hnil; have HX : Hid (FtI w bs w2 v2 (k + 1)) := HR.out.step _ (by rw [ftZ, if_neg HB0.out, HNL.out, ← HQ.out, HZ.out]) hown hgrow; clear hown hgrow hnil)))
     exact ⟨⟨k + 1, by simp, by omega, HX⟩, by simp [intOf]; omega⟩
   ·have g1 : ¬ (k : Int) < (kz : Int) := by omega
    have HF : Hid (wr.ownsRow w.heap.size 5 1 u8 kz (cellsU8 (ftL bs kz)) ∧ Below w.heap.size w wr) := by
     obtain ⟨p1, p3⟩ := HR.out
     rw [show k = kz by omega] at p1
     exact ⟨p1, p3⟩
    clear HR
    have hk0 : 0 < kz := by have := HSZ.out; first | (simp at this; omega) | omega
    obtain ⟨xg, xc, rfl⟩ : ∃ g c, u8 = .slice (some ⟨g, 0, none⟩) kz c := by
     rcases HF.out.1.2 with ⟨_, q⟩ | ⟨g, c, _, q, _⟩
     ·omega
     ·exact ⟨g, c, q⟩
    go_wp2
    go_ret
    exact ⟨_, xc, rfl, HF.out.1, HF.out.2⟩
end Go.Proofs.YtcnikfikpnnblaaGreatDoor
namespace Go.Proofs.YtcnikfikpnnblaaGreatDoor
open Go.RowKit
set_option linter.unusedVariables false
set_option linter.unusedSimpArgs false
theorem there_ok (c sh : Nat) (w : World) (h0 : w.cell? ⟨c, 0, none⟩ = some (.pointer (some ⟨sh, 0, none⟩))) (h6 : w.cell? ⟨sh, 6, none⟩ = some (.bool false)) : Calls Tryz.prog 76 #[.pointer (some ⟨c, 0, none⟩)] w fun e w' => e = .returned (.int .i64 0) ∧ w' = w := by
 go_enter Tryz.func76, Tryz.ntmps76
 go_wp2_with (go_at_call 51; refine (made_yes c sh _ h0).mono ?_; rintro e1 w1 ⟨rfl, hw⟩; obtain rfl := hw.symm)
 go_ret
 exact ⟨rfl, rfl⟩
set_option maxHeartbeats 800000 in
set_option maxRecDepth 100000 in
theorem may_ok (c sh n st : Nat) (w : World) (h0 : w.cell? ⟨c, 0, none⟩ = some (.pointer (some ⟨sh, 0, none⟩))) (h1 : w.cell? ⟨sh, 1, none⟩ = some (.int .i64 (st : Nat))) (h6 : w.cell? ⟨sh, 6, none⟩ = some (.bool false)) (hn : 16 ≤ n) (hm : n ≤ 4096) (hs : n % st = 0) (hst : 0 < st) : Calls Tryz.prog 53 #[.pointer (some ⟨c, 0, none⟩), .int .i64 (n : Nat)] w fun e w' => e = .returned (.int .i64 0) ∧ w' = w := by
 have HT : Hid (Calls Tryz.prog 76 #[.pointer (some ⟨c, 0, none⟩)] w fun e w' => e = .returned (.int .i64 0) ∧ w' = w) := there_ok c sh w h0 h6
 have g1 : decide ((n : Int) < 16) = false := by simp; omega
 have g1' : ¬ (n : Int) < 16 := by omega
 have g2 : decide (4096 < (n : Int)) = false := by simp; omega
 have g2' : ¬ (4096 : Int) < (n : Int) := by omega
 have g3 : ¬ st = 0 := by omega
 have g4 : (n : Int).tmod (st : Int) = 0 := by rw [Int.tmod_eq_emod_of_nonneg (by omega)]; omega
 clear hn hm hs hst h6
 go_enter Tryz.func53, Tryz.ntmps53
 go_wp2_with (go_at_call 76; refine HT.out.mono ?_; rintro e1 w1 ⟨rfl, hw⟩; obtain rfl := hw.symm; clear hw HT)
 go_ret
 exact ⟨rfl, rfl⟩
set_option maxHeartbeats 800000 in
set_option maxRecDepth 100000 in
/-- Cipher.Seal of a sector that may be. -/
theorem seal_gen (c sh : Nat) (f : Nat) (cs : List Value) (s : Int) (a : Option Addr) (n cp st : Nat) (w : World) (h0 : w.cell? ⟨c, 0, none⟩ = some (.pointer (some ⟨sh, 0, none⟩))) (h2 : w.cell? ⟨c, 2, none⟩ = some (.func (.func f) #[.agg cs.toArray] #[])) (h1 : w.cell? ⟨sh, 1, none⟩ = some (.int .i64 (st : Nat))) (h6 : w.cell? ⟨sh, 6, none⟩ = some (.bool false)) (hn : 16 ≤ n) (hm : n ≤ 4096) (hs : n % st = 0) (hst : 0 < st)
  (hE : ∀ args u, (callFunc f args).run Tryz.prog u = .ok (.enter f args) u) (Q : Value → World → Prop)
  (H : Hid (Calls Tryz.prog f #[.agg cs.toArray, .int .u64 s, .slice a n cp] w fun e w' => Hid (∃ y k d, e = .returned (.slice y k d) ∧ Q (.slice y k d) w'))) :
  Calls Tryz.prog 29 #[.pointer (some ⟨c, 0, none⟩), .int .u64 s, .slice a n cp] w fun e w' => Hid (∃ y k d, e = .returned (.tuple #[.slice y k d, .int .i64 0]) ∧ Q (.slice y k d) w') := by
 have HM : Hid (Calls Tryz.prog 53 #[.pointer (some ⟨c, 0, none⟩), .int .i64 (n : Nat)] w fun e w' => e = .returned (.int .i64 0) ∧ w' = w) := may_ok c sh n st w h0 h1 h6 hn hm hs hst
 clear h0 h1 h6 hn hm hs hst
 go_enter Tryz.func29, Tryz.ntmps29
 go_wp2_with (first
  | (go_at_call 53; refine HM.out.mono ?_; rintro e1 w1 ⟨rfl, hw⟩; obtain rfl := hw.symm; clear hw HM)
  | (refine H.out.mono ?_; intro e2 w2 hh; obtain ⟨y, k, d, rfl, hq⟩ := hh.out; have HQ : Hid (Q (.slice y k d) w2) := hq; clear hh hq H))
 go_ret2
 exact ⟨y, k, d, rfl, HQ.out⟩
set_option maxHeartbeats 800000 in
set_option maxRecDepth 100000 in
/-- Cipher.Open of a sector that may be. -/
theorem open_gen (c sh : Nat) (f : Nat) (cs : List Value) (s : Int) (a : Option Addr) (n cp st : Nat) (w : World) (h0 : w.cell? ⟨c, 0, none⟩ = some (.pointer (some ⟨sh, 0, none⟩))) (h2 : w.cell? ⟨c, 3, none⟩ = some (.func (.func f) #[.agg cs.toArray] #[])) (h1 : w.cell? ⟨sh, 1, none⟩ = some (.int .i64 (st : Nat))) (h6 : w.cell? ⟨sh, 6, none⟩ = some (.bool false)) (hn : 16 ≤ n) (hm : n ≤ 4096) (hs : n % st = 0) (hst : 0 < st)
  (hE : ∀ args u, (callFunc f args).run Tryz.prog u = .ok (.enter f args) u) (Q : Value → World → Prop)
  (H : Hid (Calls Tryz.prog f #[.agg cs.toArray, .int .u64 s, .slice a n cp] w fun e w' => Hid (∃ y k d, e = .returned (.slice y k d) ∧ Q (.slice y k d) w'))) :
  Calls Tryz.prog 32 #[.pointer (some ⟨c, 0, none⟩), .int .u64 s, .slice a n cp] w fun e w' => Hid (∃ y k d, e = .returned (.tuple #[.slice y k d, .int .i64 0]) ∧ Q (.slice y k d) w') := by
 have HM : Hid (Calls Tryz.prog 53 #[.pointer (some ⟨c, 0, none⟩), .int .i64 (n : Nat)] w fun e w' => e = .returned (.int .i64 0) ∧ w' = w) := may_ok c sh n st w h0 h1 h6 hn hm hs hst
 clear h0 h1 h6 hn hm hs hst
 go_enter Tryz.func32, Tryz.ntmps32
 go_wp2_with (first
  | (go_at_call 53; refine HM.out.mono ?_; rintro e1 w1 ⟨rfl, hw⟩; obtain rfl := hw.symm; clear hw HM)
  | (refine H.out.mono ?_; intro e2 w2 hh; obtain ⟨y, k, d, rfl, hq⟩ := hh.out; have HQ : Hid (Q (.slice y k d) w2) := hq; clear hh hq H))
 go_ret2
 exact ⟨y, k, d, rfl, HQ.out⟩
end Go.Proofs.YtcnikfikpnnblaaGreatDoor
