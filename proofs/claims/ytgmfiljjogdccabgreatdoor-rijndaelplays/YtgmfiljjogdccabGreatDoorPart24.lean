import Derived.Test.YtgmfiljjogdccabGreatDoorPart16
import Derived.Test.YtgmfiljjogdccabGreatDoorDec
import Derived.Test.YtgmfiljjogdccabGreatDoorPart14
import Derived.Test.YtgmfiljjogdccabGreatDoorPart08
import Derived.Test.YtgmfiljjogdccabGreatDoorPart11
import Derived.Test.YtgmfiljjogdccabGreatDoorXor
import Derived.Test.YtgmfiljjogdccabGreatDoorPart22
import Derived.Test.YtgmfiljjogdccabGreatDoorRkf
import Derived.Deep.QuietTactic
import Derived.BigQuiet
import Derived.Test.YtgmfiljjogdccabGreatDoorPart00
import Derived.Test.YtgmfiljjogdccabGreatDoorPart07
import Derived.Test.YtgmfiljjogdccabGreatDoorPart06
namespace Go.Proofs.YtgmfiljjogdccabGreatDoor
open Go.RowKit
set_option linter.unusedVariables false
/-- What unwrapping begins with: A and the halves behind it. -/
def un0 (f : Nat → Nat) : Nat × (Nat → Nat) := (numK f 8, halfs (fun i => f (8 + i)))
theorem un0_ok {f : Nat → Nat} (hf : ∀ i, f i < 256) : Rok (un0 f) := by
 have h := numK_lt hf 8
 rw [show (256 : Nat) ^ 8 = 18446744073709551616 by decide] at h
 refine ⟨h, ?_⟩
 intro i
 show halfs (fun i => f (8 + i)) i < _
 exact halfs_lt (f := fun i => f (8 + i)) (fun i => hf _) i
set_option maxHeartbeats 1600000 in
set_option maxRecDepth 100000 in
theorem unwrap_ok (g o nr n b po cap : Nat) (K : Nat → Nat) (f : Nat → Nat) (w : World) (hC : Ciph w g o nr K) (hn : 1 ≤ n) (hm : n ≤ 1048576) (hcap : 8 + 8 * n ≤ cap) (hb : b < w.heap.size) (hp : ∀ i, i < 8 + 8 * n → w.cell? ⟨b, po + i, none⟩ = some (.int .u8 (f i : Nat))) (hf : ∀ i, f i < 256) :
  Calls Tryz.prog 58 #[.pointer (some ⟨g, o, none⟩), .slice (some ⟨b, po, none⟩) (8 + 8 * n) cap] w fun e w' => e = .returned (.tuple #[.slice (some ⟨w.heap.size, 0, none⟩) (8 * n) (8 * n), .int .u64 ((aft (unStep nr K n) (6 * n) (un0 f)).1 : Nat)]) ∧ Halves w' w.heap.size 0 n (aft (unStep nr K n) (6 * n) (un0 f)).2 ∧ Below w.heap.size w w' := by
 obtain ⟨i0, hi, hz0, hz1, hz2⟩ := info_parts Tryz.info5
 have HP : Hid (∀ i, i < 8 + 8 * n → w.cell? ⟨b, po + i, none⟩ = some (.int .u8 (f i : Nat))) := hp
 have HF : Hid (∀ i, f i < 256) := hf
 have HC : Hid (Ciph w g o nr K) := hC
 have HBB : Hid (b < w.heap.size) := hb
 obtain ⟨c8, rfl⟩ : ∃ c, cap = c + 8 := ⟨cap - 8, by omega⟩
 obtain ⟨q, HQ⟩ : ∃ q, Hid (q = 8 * n) := ⟨_, rfl⟩
 have hqi : (8 : Int) * (n : Nat) = (q : Nat) := by have := HQ.out; omega
 obtain ⟨m, HM⟩ : ∃ m, Hid (m = 8 + q) := ⟨_, rfl⟩
 rw [← HQ.out, ← HM.out] at hcap
 rw [← HQ.out, ← HM.out]
 obtain ⟨n1, HN1⟩ : ∃ n1, Hid (n1 = n + 1) := ⟨_, rfl⟩
 have hmd : ((m : Nat) : Int) / 8 = (n1 : Nat) := by have := HM.out; have := HQ.out; have := HN1.out; omega
 have hn1 : ((n1 : Nat) : Int) - 1 = (n : Nat) := by have := HN1.out; omega
 have hml : m ≤ 8388616 := by have := HM.out; have := HQ.out; omega
 have hql : q ≤ 8388608 := by have := HQ.out; omega
 have hm8 : 8 ≤ m := by have := HM.out; omega
 have hqm : m - 8 = q := by have := HM.out; omega
 obtain ⟨CS, HCS⟩ : ∃ cs, Hid (cs = (List.range (8 * n)).map fun i => Value.int .u8 (f (8 + i) : Nat)) := ⟨_, rfl⟩
 have HCL : Hid (CS.length = q) := by show _ = _; rw [HCS.out, HQ.out]; simp
 clear hp hf hC hb
 go_enter Tryz.func58, Tryz.ntmps58
 go_wp2_with (first
  | (at_make; go_must (refine wpList_make_full _ rfl _ _ 22 rfl w.heap.size 5 i0 (.int .u8 0) 1 Tryz.underlying22 hi hz0 hz1 .i64 .i64 (q : Nat) (q : Nat) q rfl rfl rfl rfl ?_ ?_ ?_ ?_)))
 ·rw [hz2]; omega
 ·unfold maxLen; omega
 ·exact Nat.le_refl _
 intro w1 hown hgr
 have HB1 : Hid (Below w.heap.size w w1) := (Below.refl _ _).grown hgr (Nat.le_refl _) (by intro k hk; cases hk)
 obtain ⟨cur, HG, HZ⟩ : ∃ cur : Array Value, Hid (w1.heap[w.heap.size]? = some (.cells cur 5 (0, 0))) ∧ Hid (cur.size = q) := by
  obtain ⟨_, ⟨h, _⟩ | ⟨g', c', cur, h, _, h2, _, _, h5, _⟩⟩ := hown
  ·cases h
  ·cases h; exact ⟨cur, h2, by show _ = _; omega⟩
 clear hown hgr
 obtain ⟨w2, HW2⟩ : ∃ w2, Hid (w2 = w1.setRow w.heap.size (cur.toList.take 0 ++ (CS ++ cur.toList.drop (0 + CS.length))).toArray) := ⟨_, rfl⟩
 have hcp : Sem.run Tryz.prog (Builtin.copy_ #[22, 22] 3 #[.slice (some ⟨w.heap.size, 0, none⟩) q q, .slice (some ⟨b, po + 8, none⟩) q c8]) w1 = .ok (.int .i64 (q : Nat)) w2 := by
  have h := run_copy_row (P := Tryz.prog) w1 22 22 3 5 w.heap.size 0 q q ⟨b, po + 8, none⟩ q c8 cur 5 CS Tryz.underlying22 (by rw [hi]; simp [hz1]) HG.out (by rw [HCL.out]; exact (Nat.min_self q).symm) (by
   intro j v hv
   rw [HCS.out] at hv
   simp at hv
   obtain ⟨j', h1, rfl⟩ := hv
   obtain ⟨h2, h3⟩ := List.getElem?_eq_some_iff.1 h1
   simp at h2 h3
   subst h3
   rw [Addr.add_mid, HB1.out.cell HBB.out, Nat.add_assoc]
   exact HP.out (8 + j) (by omega)) (by rw [HCL.out, HZ.out]; omega) (by
   intro v hv
   rw [HCS.out] at hv
   simp at hv
   obtain ⟨j, _, rfl⟩ := hv
   rfl)
  rw [HW2.out]
  rw [HCL.out] at h ⊢
  rw [List.append_assoc] at h
  exact h
 have HH : Hid (Halves w2 w.heap.size 0 n (un0 f).2) := by show Halves _ _ _ _ _; rw [HW2.out]; exact halves_copied cur (fun i => f (8 + i)) (fun i => HF.out _) CS HCS.out (by rw [HZ.out, HQ.out]; omega) HG.out
 have HB2 : Hid (Below w.heap.size w w2) := by show Below _ _ _; rw [HW2.out]; exact below_setRow HB1.out (Nat.le_refl _) _
 obtain ⟨A0, HA0⟩ : ∃ x, Hid (x = numK f 8) := ⟨_, rfl⟩
 have KN0 : Hid (Calls Tryz.prog 88 #[.slice (some ⟨b, po, none⟩) m (c8 + 8)] w2 fun e w' => e = .returned (.int .u64 (A0 : Nat)) ∧ w' = w2) := by
  rw [HA0.out]
  exact number_ok b po m (c8 + 8) f w2 hm8 hcap (fun i hi => (HB2.out.cell HBB.out).trans (HP.out i (by omega))) HF.out
 clear HG HZ HB1 HP HBB
 go_wp2_with (first | (go_at_call 88; refine KN0.out.mono ?_))
 rintro e0 w2' ⟨rfl, rfl⟩
 go_wp2
 go_loopw [8, 9] (fun a i wr => ∃ (k A : Nat) (z : Int) (R : Nat → Nat), k ≤ 6 * n ∧ z + 1 = (k : Nat) ∧ i = .int .i64 z ∧ a = .int .u64 (A : Nat) ∧ Hid (aft (unStep nr K n) k (A, R) = aft (unStep nr K n) (6 * n) (un0 f)) ∧ Hid (Rok (A, R)) ∧ Hid (Halves wr w.heap.size 0 n R) ∧ Hid (Below w.heap.size w wr)) (fun _ i _ => (intOf i + 1).toNat)
 case atStart =>
  refine ⟨6 * n, A0, _, (un0 f).2, Nat.le_refl _, ?_, rfl, rfl, ?_, ?_, HH, HB2⟩
  ·omega
  ·show _ = _; rw [HA0.out]; rfl
  ·show Rok _; rw [HA0.out]; exact un0_ok HF.out
 case round =>
  obtain ⟨k, A, z, R, hk, hz, rfl, rfl, HA, HW, HH3, HB3⟩ := hrel
  clear HH HB2 hcp KN0
  have HAl : Hid (A < 18446744073709551616) := HW.out.1
  by_cases hlt : 0 < k
  ·obtain ⟨k, rfl⟩ : ∃ k', k = k' + 1 := ⟨k - 1, by omega⟩
   obtain rfl : z = (k : Nat) := by omega
   clear hz
   have hk6 : k < 6291456 := by omega
   obtain ⟨i, HI⟩ : ∃ i, Hid (i = k % n) := ⟨_, rfl⟩
   have hil : i < n := by rw [HI.out]; exact Nat.mod_lt _ (by omega)
   have hmod : ((k : Nat) : Int) % ((n : Nat) : Int) = (i : Nat) := by rw [HI.out]; simp
   obtain ⟨j, HJ⟩ : ∃ j, Hid (j = 8 * i) := ⟨_, rfl⟩
   have hji : (8 : Int) * (i : Nat) = (j : Nat) := by have := HJ.out; omega
   have hjq : j + 8 ≤ q := by have h1 := HJ.out; have h2 := HQ.out; omega
   obtain ⟨r, HRr⟩ : ∃ r, Hid (r = R i) := ⟨_, rfl⟩
   have HRl : Hid (r < 18446744073709551616) := by show _ < _; rw [HRr.out]; exact HW.out.2 i
   have KN : Hid (Calls Tryz.prog 88 #[.slice (some ⟨w.heap.size, j, none⟩) (q - j) (q - j)] wr fun e w' => e = .returned (.int .u64 (r : Nat)) ∧ w' = wr) := by
    have h := number_ok w.heap.size j (q - j) (q - j) (byteK r) wr (by omega) (Nat.le_refl _) (fun k hk => by have h := HH3.out.cell i k hil hk; rw [Nat.zero_add] at h; rw [HJ.out, HRr.out]; exact h) (byteK_lt r)
    rw [numK_byteK r HRl.out] at h
    exact h
   obtain ⟨A1, HA1⟩ : ∃ x, Hid (x = Nat.xor A (k + 1)) := ⟨_, rfl⟩
   have hx : bits .xor .u64 ((A : Nat) : Int) (((k : Nat) : Int) + 1) = (A1 : Nat) := by rw [HA1.out]; exact xor64 A (k + 1) HAl.out (by omega)
   have HA1l : Hid (A1 < 18446744073709551616) := by show _ < _; rw [HA1.out]; exact Nat.xor_lt_two_pow (n := 64) HAl.out (by omega)
   obtain ⟨S, HS⟩ : ∃ S, Hid (S = joinW A1 r) := ⟨_, rfl⟩
   obtain ⟨T, HT⟩ : ∃ T, Hid (T = dcW nr K S) := ⟨_, rfl⟩
   have HSo : Hid S.ok := by show S.ok; rw [HS.out]; exact joinW_ok HA1l.out HRl.out
   have HTo : Hid T.ok := by show T.ok; rw [HT.out]; exact dcW_ok HC.out.small nr S
   have KJ : Hid (∀ u, Calls Tryz.prog 78 #[.int .u64 (A1 : Nat), .int .u64 (r : Nat)] u fun e u' => e = .returned S.blk ∧ Below u.heap.size u u') := fun u => by rw [HS.out]; exact join_ok A1 r HA1l.out HRl.out u
   obtain ⟨hv, HHV⟩ : ∃ x, Hid (x = T.a * 4294967296 + T.b) := ⟨_, rfl⟩
   obtain ⟨lv, HLV⟩ : ∃ x, Hid (x = T.c * 4294967296 + T.d) := ⟨_, rfl⟩
   have KH : Hid (∀ u, Calls Tryz.prog 76 #[T.blk] u fun e u' => e = .returned (.tuple #[.int .u64 (hv : Nat), .int .u64 (lv : Nat)]) ∧ Below u.heap.size u u') := fun u => by rw [HHV.out, HLV.out]; exact halves_ok T HTo.out u
   have HLl : Hid (lv < 18446744073709551616) := by show _ < _; rw [HLV.out]; exact W4.lo_lt HTo.out
   have KE : Hid (∀ u, Below wr.heap.size wr u → Calls Tryz.prog 50 #[.pointer (some ⟨g, o, none⟩), S.blk] u fun e u' => e = .returned T.blk ∧ Below u.heap.size u u') := fun u hb => by
    rw [HT.out]
    exact dec_ok g o nr K S u ((HC.out.below HB3.out HC.out.here).below hb (Nat.lt_of_lt_of_le HC.out.here HB3.out.size)) HSo.out
   have HST : Hid (unStep nr K n k (A, R) = (hv, setR R i lv)) := by
    show _ = _
    rw [HHV.out, HLV.out, HT.out, HS.out, HA1.out, HRr.out, HI.out]
    rfl
   generalize hSb : S.blk = sb at KJ KE
   generalize hTb : T.blk = tb at KE KH
   have HSb : Hid (S.blk = sb) := hSb
   have HTb : Hid (T.blk = tb) := hTb
   clear hSb hTb
   go_wp2_with (first | (go_at_call 88; refine KN.out.mono ?_))
   rintro e1 w1' ⟨rfl, rfl⟩
   go_wp2_with (first | (go_at_call 78; refine (KJ.out _).mono ?_))
   rintro e2 u2 ⟨rfl, hb2⟩
   have HU2 : Hid (Below w1'.heap.size w1' u2) := hb2
   clear hb2
   go_wp2_with (first | (go_at_call 50; refine (KE.out _ HU2.out).mono ?_))
   rintro e3 u3 ⟨rfl, hb3⟩
   have HU3 : Hid (Below w1'.heap.size w1' u3) := HU2.out.trans (hb3.mono HU2.out.size)
   clear hb3 HU2
   go_wp2_with (first | (go_at_call 76; refine (KH.out _).mono ?_))
   rintro e4 u4 ⟨rfl, hb4⟩
   have HU4 : Hid (Below w1'.heap.size w1' u4) := HU3.out.trans (hb4.mono HU3.out.size)
   clear hb4 HU3
   have HH4 : Hid (Halves u4 w.heap.size 0 n R) := HH3.out.below HU4.out HH3.out.here
   have HB4 : Hid (Below w.heap.size w u4) := HB3.out.trans (HU4.out.mono HB3.out.size)
   have KP : Hid (Calls Tryz.prog 89 #[.slice (some ⟨w.heap.size, j, none⟩) (q - j) (q - j), .int .u64 (lv : Nat)] u4 fun e w' => e = .returned (.tuple #[]) ∧ Touch u4 w' w.heap.size j 8 ∧ ∀ k, k < 8 → w'.cell? ⟨w.heap.size, j + k, none⟩ = some (.int .u8 (byteK lv k : Nat))) :=
    put_ok w.heap.size j (q - j) (q - j) lv u4 (by omega) HLl.out (there_mid (a := 0) HH4.out.room j 8 (by have h1 := HJ.out; omega))
   go_wp2_with (first | (go_at_call 89; refine KP.out.mono ?_))
   rintro e5 u5 ⟨rfl, ht5, hc5⟩
   have HH5 : Hid (Halves u5 w.heap.size 0 n (setR R i lv)) := HH4.out.put i lv hil (by rw [Nat.zero_add, ← HJ.out]; exact ht5) (by rw [Nat.zero_add, ← HJ.out]; exact hc5)
   have HB5 : Hid (Below w.heap.size w u5) := HB4.out.trans (ht5.toBelow (Nat.le_refl _) HB4.out.size)
   have HA5 : Hid (aft (unStep nr K n) k (hv, setR R i lv) = aft (unStep nr K n) (6 * n) (un0 f)) := by
    show _ = _
    rw [← HST.out, ← aft_succ]
    exact HA.out
   have HW5 : Hid (Rok (hv, setR R i lv)) := by
    show Rok _
    rw [← HST.out]
    exact unStep_ok HC.out.small nr n k HW.out
   clear ht5 hc5
   go_wp2
   go_roundw
   case rel => exact ⟨k, hv, _, setR R i lv, by omega, by omega, rfl, rfl, HA5, HW5, HH5, HB5⟩
   case measure => simp [intOf]
  ·obtain rfl : k = 0 := by omega
   obtain rfl : z = -1 := by omega
   have HA6 : Hid ((A, R) = aft (unStep nr K n) (6 * n) (un0 f)) := HA.out
   clear HA
   go_wp2
   go_ret2
   rw [← HA6.out]
   exact ⟨rfl, HH3.out, HB3.out⟩
end Go.Proofs.YtgmfiljjogdccabGreatDoor
namespace Go.Proofs.YtgmfiljjogdccabGreatDoor
open Go.RowKit Go.RwLone
set_option linter.unusedVariables false
theorem Halves.far {w w' : World} {s off n g o c : Nat} {R : Nat → Nat} (h : Halves w s off n R) (ht : Touch w w' g o c) (hne : s ≠ g) : Halves w' s off n R :=
 ⟨Nat.lt_of_lt_of_le h.here ht.size, fun j hj => ⟨by rw [ht.far h.here hne]; exact (h.room j hj).1, by rw [ht.farFrozen h.here hne]; exact (h.room j hj).2⟩, fun i k hi hk => (ht.far h.here hne).trans (h.cell i k hi hk)⟩
set_option maxHeartbeats 1600000 in
set_option maxRecDepth 100000 in
theorem kwrap_ok (g nr n b po cap : Nat) (K : Nat → Nat) (f : Nat → Nat) (w : World) (h : KeyAt w g nr K) (hn : 2 ≤ n) (hm : n ≤ 512) (hcap : 8 * n ≤ cap) (hb : b < w.heap.size) (hbg : b ≠ g) (hp : ∀ i, i < 8 * n → w.cell? ⟨b, po + i, none⟩ = some (.int .u8 (f i : Nat))) (hf : ∀ i, f i < 256) :
  Calls Tryz.prog 26 #[.pointer (some ⟨g, 0, none⟩), .slice (some ⟨b, po, none⟩) (8 * n) cap] w fun e w' => ∃ s, e = .returned (.tuple #[.slice (some ⟨s, 0, none⟩) (8 + 8 * n) (8 + 8 * n), .int .i64 0]) ∧ w.heap.size ≤ s ∧ Halves w' s 8 n (wrapF nr K n f (6 * n)).2 ∧ (∀ k, k < 8 → w'.cell? ⟨s, k, none⟩ = some (.int .u8 (byteK (wrapF nr K n f (6 * n)).1 k : Nat))) ∧ KeyAt w' g nr K ∧ Touch w w' g 4 1 := by
 have HK : Hid (KeyAt w g nr K) := h
 have HH : Hid (Calls Tryz.prog 41 #[.pointer (some ⟨g, 0, none⟩)] w fun e w' => e = .returned (.int .i64 0) ∧ w' = w.setCell ⟨g, 4, none⟩ (.int .i32 1)) := hold_ok g nr K w h
 have HG : Hid (g < w.heap.size) := h.ciph.here
 have HP : Hid (b < w.heap.size ∧ b ≠ g ∧ (∀ i, i < 8 * n → w.cell? ⟨b, po + i, none⟩ = some (.int .u8 (f i : Nat))) ∧ (∀ i, f i < 256) ∧ 8 * n ≤ cap) := ⟨hb, hbg, hp, hf, hcap⟩
 have HL : Hid (∀ u, Calls Tryz.prog 55 #[.int .i64 (8 * n : Nat), .int .i64 (16 : Nat), .int .i64 (4096 : Nat)] u fun e w' => e = .returned (.int .i64 0) ∧ w' = u) := fun u => checkLength_ok (8 * n) 16 4096 u (by omega) (by omega) (by omega) (by omega)
 clear h hb hbg hp hf
 obtain ⟨m, HM⟩ : ∃ m, Hid (m = 8 * n) := ⟨_, rfl⟩
 rw [← HM.out] at HL hcap ⊢
 obtain ⟨q, HQ⟩ : ∃ q, Hid (q = 8 + m) := ⟨_, rfl⟩
 rw [← HQ.out]
 go_enter_defers Tryz.func26, Tryz.ntmps26
 go_wp2_with (first | (go_at_call 41; refine HH.out.mono ?_))
 rintro e1 w1 ⟨rfl, hw1⟩
 have H1 : Hid (Ciph w1 g 6 nr K ∧ Touch w w1 g 4 1 ∧ w1.cell? ⟨g, 4, none⟩ = some (.int .i32 1)) := held HK.out hw1
 clear hw1 HH
 go_wp2_with (first | (go_at_call 55; refine (HL.out _).mono ?_))
 rintro e2 w2 ⟨rfl, rfl⟩
 have HW : Hid (Calls Tryz.prog 56 #[.pointer (some ⟨g, 6, none⟩), .slice (some ⟨b, po, none⟩) m cap] w2 fun e w' => e = .returned (.slice (some ⟨w2.heap.size, 0, none⟩) (8 + 8 * n) (8 + 8 * n)) ∧ Halves w' w2.heap.size 8 n (wrapF nr K n f (6 * n)).2 ∧ (∀ k, k < 8 → w'.cell? ⟨w2.heap.size, k, none⟩ = some (.int .u8 (byteK (wrapF nr K n f (6 * n)).1 k : Nat))) ∧ Below w2.heap.size w2 w') := by
  rw [HM.out]
  obtain ⟨p1, p2, p3, p4, p5⟩ := HP.out
  exact wrap_ok g 6 nr n b po cap K f w2 H1.out.1 (by omega) (by omega) p5 (Nat.lt_of_lt_of_le p1 H1.out.2.1.size) (fun i hi => (H1.out.2.1.far p1 p2).trans (p3 i hi)) p4
 rw [← HM.out, ← HQ.out] at HW
 go_wp2_with (first | (go_at_call 56; refine HW.out.mono ?_))
 rintro e3 w3 ⟨rfl, hh3, hc3, hb3⟩
 have H3 : Hid (Halves w3 w2.heap.size 8 n (wrapF nr K n f (6 * n)).2 ∧ (∀ k, k < 8 → w3.cell? ⟨w2.heap.size, k, none⟩ = some (.int .u8 (byteK (wrapF nr K n f (6 * n)).1 k : Nat))) ∧ Touch w w3 g 4 1 ∧ w3.cell? ⟨g, 4, none⟩ = some (.int .i32 1)) :=
  ⟨hh3, hc3, H1.out.2.1.below hb3 HG.out, (hb3.cell H1.out.1.here).trans H1.out.2.2⟩
 clear hh3 hc3 hb3
 go_wp2_with fail
 refine leaves_cons (f := 42) (args := #[.pointer (some ⟨g, 0, none⟩)]) (by simp) (by simp [go_sem]) ?_
 refine (unlocked HK.out H3.out.2.2.1 H3.out.2.2.2).mono ?_
 rintro e5 u5 w5 ⟨rfl, rfl, hk5, ht5, hw5⟩
 have ht : Touch w3 w5 g 4 1 := by rw [hw5]; exact (Touch.refl w3 g 4 1).setCells 4 _ (by omega) (by simp)
 have hsz := H1.out.2.1.size
 have hgw := HG.out
 have hne : w2.heap.size ≠ g := by omega
 refine ⟨_, results_tmp2 rfl _ _ _, w2.heap.size, rfl, hsz, H3.out.1.far ht hne, fun k hk => ?_, hk5, ht5⟩
 exact (ht.far (p := ⟨w2.heap.size, k, none⟩) H3.out.1.here hne).trans (H3.out.2.1 k hk)
end Go.Proofs.YtgmfiljjogdccabGreatDoor
namespace Go.Proofs.YtgmfiljjogdccabGreatDoor
open Go.RowKit Go.RwLone
set_option linter.unusedVariables false
set_option maxHeartbeats 1600000 in
set_option maxRecDepth 100000 in
theorem kunwrap_ok (g nr n b po cap : Nat) (K : Nat → Nat) (f : Nat → Nat) (w : World) (h : KeyAt w g nr K) (hn : 2 ≤ n) (hm : n ≤ 512) (hcap : 8 + 8 * n ≤ cap) (hb : b < w.heap.size) (hbg : b ≠ g) (hp : ∀ i, i < 8 + 8 * n → w.cell? ⟨b, po + i, none⟩ = some (.int .u8 (f i : Nat))) (hf : ∀ i, f i < 256) (hgood : (aft (unStep nr K n) (6 * n) (un0 f)).1 = 12008468691120727718) :
  Calls Tryz.prog 28 #[.pointer (some ⟨g, 0, none⟩), .slice (some ⟨b, po, none⟩) (8 + 8 * n) cap] w fun e w' => ∃ s, e = .returned (.tuple #[.slice (some ⟨s, 0, none⟩) (8 * n) (8 * n), .int .i64 0]) ∧ w.heap.size ≤ s ∧ Halves w' s 0 n (aft (unStep nr K n) (6 * n) (un0 f)).2 ∧ KeyAt w' g nr K ∧ Touch w w' g 4 1 := by
 have HK : Hid (KeyAt w g nr K) := h
 have HH : Hid (Calls Tryz.prog 41 #[.pointer (some ⟨g, 0, none⟩)] w fun e w' => e = .returned (.int .i64 0) ∧ w' = w.setCell ⟨g, 4, none⟩ (.int .i32 1)) := hold_ok g nr K w h
 have HG : Hid (g < w.heap.size) := h.ciph.here
 have HP : Hid (b < w.heap.size ∧ b ≠ g ∧ (∀ i, i < 8 + 8 * n → w.cell? ⟨b, po + i, none⟩ = some (.int .u8 (f i : Nat))) ∧ (∀ i, f i < 256) ∧ 8 + 8 * n ≤ cap) := ⟨hb, hbg, hp, hf, hcap⟩
 have HL : Hid (∀ u, Calls Tryz.prog 55 #[.int .i64 (8 + 8 * n : Nat), .int .i64 (24 : Nat), .int .i64 (4104 : Nat)] u fun e w' => e = .returned (.int .i64 0) ∧ w' = u) := fun u => checkLength_ok (8 + 8 * n) 24 4104 u (by omega) (by omega) (by omega) (by omega)
 have HGD : Hid ((aft (unStep nr K n) (6 * n) (un0 f)).1 = 12008468691120727718) := hgood
 clear h hb hbg hp hf hgood
 obtain ⟨q, HQ⟩ : ∃ q, Hid (q = 8 * n) := ⟨_, rfl⟩
 obtain ⟨m, HM⟩ : ∃ m, Hid (m = 8 + q) := ⟨_, rfl⟩
 rw [← HQ.out, ← HM.out] at HL hcap
 rw [← HQ.out, ← HM.out]
 go_enter_defers Tryz.func28, Tryz.ntmps28
 go_wp2_with (first | (go_at_call 41; refine HH.out.mono ?_))
 rintro e1 w1 ⟨rfl, hw1⟩
 have H1 : Hid (Ciph w1 g 6 nr K ∧ Touch w w1 g 4 1 ∧ w1.cell? ⟨g, 4, none⟩ = some (.int .i32 1)) := held HK.out hw1
 clear hw1 HH
 go_wp2_with (first | (go_at_call 55; refine (HL.out _).mono ?_))
 rintro e2 w2 ⟨rfl, rfl⟩
 have HW : Hid (Calls Tryz.prog 58 #[.pointer (some ⟨g, 6, none⟩), .slice (some ⟨b, po, none⟩) m cap] w2 fun e w' => e = .returned (.tuple #[.slice (some ⟨w2.heap.size, 0, none⟩) q q, .int .u64 12008468691120727718]) ∧ Halves w' w2.heap.size 0 n (aft (unStep nr K n) (6 * n) (un0 f)).2 ∧ Below w2.heap.size w2 w') := by
  rw [HM.out, HQ.out]
  obtain ⟨p1, p2, p3, p4, p5⟩ := HP.out
  have h := unwrap_ok g 6 nr n b po cap K f w2 H1.out.1 (by omega) (by omega) p5 (Nat.lt_of_lt_of_le p1 H1.out.2.1.size) (fun i hi => (H1.out.2.1.far p1 p2).trans (p3 i hi)) p4
  rw [HGD.out] at h
  exact h
 go_wp2_with (first | (go_at_call 58; refine HW.out.mono ?_))
 rintro e3 w3 ⟨rfl, hh3, hb3⟩
 have H3 : Hid (Halves w3 w2.heap.size 0 n (aft (unStep nr K n) (6 * n) (un0 f)).2 ∧ Touch w w3 g 4 1 ∧ w3.cell? ⟨g, 4, none⟩ = some (.int .i32 1)) :=
  ⟨hh3, H1.out.2.1.below hb3 HG.out, (hb3.cell H1.out.1.here).trans H1.out.2.2⟩
 clear hh3 hb3
 go_wp2_with fail
 refine leaves_cons (f := 42) (args := #[.pointer (some ⟨g, 0, none⟩)]) (by simp) (by simp [go_sem]) ?_
 refine (unlocked HK.out H3.out.2.1 H3.out.2.2).mono ?_
 rintro e5 u5 w5 ⟨rfl, rfl, hk5, ht5, hw5⟩
 have ht : Touch w3 w5 g 4 1 := by rw [hw5]; exact (Touch.refl w3 g 4 1).setCells 4 _ (by omega) (by simp)
 have hsz := H1.out.2.1.size
 have hgw := HG.out
 have hne : w2.heap.size ≠ g := by omega
 exact ⟨_, results_tmp2 rfl _ _ _, w2.heap.size, rfl, hsz, H3.out.1.far ht hne, hk5, ht5⟩
/-- What was wrapped, read as bytes: A, then the halves. -/
def wrB (x : Nat × (Nat → Nat)) : Nat → Nat := fun i => if i < 8 then byteK x.1 i else byteK (x.2 ((i - 8) / 8)) ((i - 8) % 8)
theorem wrB_lt (x : Nat × (Nat → Nat)) (i : Nat) : wrB x i < 256 := by unfold wrB; split <;> exact byteK_lt _ _
theorem un0_wrB {x : Nat × (Nat → Nat)} (h : Rok x) : un0 (wrB x) = x := by
 obtain ⟨a, R⟩ := x
 have e1 : numK (wrB (a, R)) 8 = a := by
  have : numK (wrB (a, R)) 8 = numK (byteK a) 8 := by simp [numK, wrB]
  rw [this]; exact numK_byteK a h.1
 have e2 : halfs (fun i => wrB (a, R) (8 + i)) = R := by
  funext i
  have h0 : ∀ k, k < 8 → wrB (a, R) (8 + (8 * i + k)) = byteK (R i) k := fun k hk => by
   have h1 : ¬ 8 + (8 * i + k) < 8 := by omega
   have h2 : (8 + (8 * i + k) - 8) / 8 = i := by omega
   have h3 : (8 + (8 * i + k) - 8) % 8 = k := by omega
   simp only [wrB, h1, if_false, h2, h3]
  have : numK (fun k => wrB (a, R) (8 + (8 * i + k))) 8 = numK (byteK (R i)) 8 := by
   simp only [numK, h0 0 (by decide), h0 1 (by decide), h0 2 (by decide), h0 3 (by decide), h0 4 (by decide), h0 5 (by decide), h0 6 (by decide), h0 7 (by decide)]
  show numK (fun k => wrB (a, R) (8 + (8 * i + k))) 8 = R i
  rw [this]
  exact numK_byteK _ (h.2 i)
 show (numK (wrB (a, R)) 8, halfs (fun i => wrB (a, R) (8 + i))) = (a, R)
 rw [e1, e2]
end Go.Proofs.YtgmfiljjogdccabGreatDoor
namespace Go.Proofs.YtgmfiljjogdccabGreatDoor
open Go.RowKit
set_option linter.unusedVariables false
/-- What is carried behind m digits. -/
def crr (N n : Nat) : Nat → Nat
 | 0 => n
 | m + 1 => (N / 256 ^ m % 256 + crr N n m) / 256
theorem crr_succ (N n m : Nat) : crr N n (m + 1) = (N / 256 ^ m % 256 + crr N n m) / 256 := rfl
theorem crr_eq (N n : Nat) : ∀ m, crr N n m = (N % 256 ^ m + n) / 256 ^ m
 | 0 => by simp [crr, Nat.mod_one]
 | m + 1 => by
  have hM : 0 < 256 ^ m := Nat.pow_pos (by decide)
  show (N / 256 ^ m % 256 + crr N n m) / 256 = _
  rw [crr_eq N n m, Nat.pow_succ, Nat.mod_mul, ← Nat.div_div_eq_div_mul]
  congr 1
  rw [show N % 256 ^ m + 256 ^ m * (N / 256 ^ m % 256) + n = (N % 256 ^ m + n) + 256 ^ m * (N / 256 ^ m % 256) by omega, Nat.add_mul_div_left _ _ hM]
  omega
theorem crr_digit (N n m : Nat) : (N / 256 ^ m % 256 + crr N n m) % 256 = (N + n) / 256 ^ m % 256 := by
 have hM : 0 < 256 ^ m := Nat.pow_pos (by decide)
 have h2 := Nat.div_add_mod N (256 ^ m)
 have h1 : (N + n) / 256 ^ m = N / 256 ^ m + (N % 256 ^ m + n) / 256 ^ m := by
  conv => lhs; rw [← h2]
  rw [Nat.add_assoc, Nat.add_comm, Nat.add_mul_div_left _ _ hM, Nat.add_comm]
 rw [crr_eq, h1]
 omega
theorem crr_le (N n : Nat) : ∀ m, crr N n m ≤ n
 | 0 => Nat.le_refl _
 | m + 1 => by
  have := crr_le N n m
  show (N / 256 ^ m % 256 + crr N n m) / 256 ≤ n
  omega
theorem digit_mod (X m : Nat) (hm : m < 16) : X % 340282366920938463463374607431768211456 / 256 ^ m % 256 = X / 256 ^ m % 256 := by
 have e : (340282366920938463463374607431768211456 : Nat) = 256 ^ m * 256 ^ (16 - m) := by rw [← Nat.pow_add, show m + (16 - m) = 16 by omega]
 rw [e, Nat.mod_mul_right_div_self]
 exact Nat.mod_mod_of_dvd _ ⟨256 ^ (15 - m), by rw [show 16 - m = (15 - m) + 1 by omega, Nat.pow_succ, Nat.mul_comm]⟩
/-- A state as one number. -/
def W4.num (s : W4) : Nat := ((s.a * 4294967296 + s.b) * 4294967296 + s.c) * 4294967296 + s.d
theorem sixteen {j : Nat} (hj : j < 16) : j = 0 ∨ j = 1 ∨ j = 2 ∨ j = 3 ∨ j = 4 ∨ j = 5 ∨ j = 6 ∨ j = 7 ∨ j = 8 ∨ j = 9 ∨ j = 10 ∨ j = 11 ∨ j = 12 ∨ j = 13 ∨ j = 14 ∨ j = 15 := by omega
theorem num_a {s : W4} (h : s.ok) : s.num / 79228162514264337593543950336 = s.a := by unfold W4.ok at h; unfold W4.num; omega
theorem num_b {s : W4} (h : s.ok) : s.num / 18446744073709551616 % 4294967296 = s.b := by unfold W4.ok at h; unfold W4.num; omega
theorem num_c {s : W4} (h : s.ok) : s.num / 4294967296 % 4294967296 = s.c := by unfold W4.ok at h; unfold W4.num; omega
theorem num_d {s : W4} (h : s.ok) : s.num % 4294967296 = s.d := by unfold W4.ok at h; unfold W4.num; omega
theorem sb_num {s : W4} (h : s.ok) (j : Nat) (hj : j < 16) : sb s j = s.num / 256 ^ (15 - j) % 256 := by
 have ha := num_a h
 have hb := num_b h
 have hc := num_c h
 have hd := num_d h
 have h1 := h.1
 generalize s.num = N at *
 rcases sixteen hj with rfl | rfl | rfl | rfl | rfl | rfl | rfl | rfl | rfl | rfl | rfl | rfl | rfl | rfl | rfl | rfl
 ·show bt0 s.a = _; rw [← ha]; unfold bt0; simp only [Nat.reduceSub, Nat.reducePow]; omega
 ·show bt1 s.a = _; rw [← ha]; unfold bt1; simp only [Nat.reduceSub, Nat.reducePow]; omega
 ·show bt2 s.a = _; rw [← ha]; unfold bt2; simp only [Nat.reduceSub, Nat.reducePow]; omega
 ·show bt3 s.a = _; rw [← ha]; unfold bt3; simp only [Nat.reduceSub, Nat.reducePow]
 ·show bt0 s.b = _; rw [← hb]; unfold bt0; simp only [Nat.reduceSub, Nat.reducePow]; omega
 ·show bt1 s.b = _; rw [← hb]; unfold bt1; simp only [Nat.reduceSub, Nat.reducePow]; omega
 ·show bt2 s.b = _; rw [← hb]; unfold bt2; simp only [Nat.reduceSub, Nat.reducePow]; omega
 ·show bt3 s.b = _; rw [← hb]; unfold bt3; simp only [Nat.reduceSub, Nat.reducePow]; omega
 ·show bt0 s.c = _; rw [← hc]; unfold bt0; simp only [Nat.reduceSub, Nat.reducePow]; omega
 ·show bt1 s.c = _; rw [← hc]; unfold bt1; simp only [Nat.reduceSub, Nat.reducePow]; omega
 ·show bt2 s.c = _; rw [← hc]; unfold bt2; simp only [Nat.reduceSub, Nat.reducePow]; omega
 ·show bt3 s.c = _; rw [← hc]; unfold bt3; simp only [Nat.reduceSub, Nat.reducePow]; omega
 ·show bt0 s.d = _; rw [← hd]; unfold bt0; simp only [Nat.reduceSub, Nat.reducePow]; omega
 ·show bt1 s.d = _; rw [← hd]; unfold bt1; simp only [Nat.reduceSub, Nat.reducePow]; omega
 ·show bt2 s.d = _; rw [← hd]; unfold bt2; simp only [Nat.reduceSub, Nat.reducePow]; omega
 ·show bt3 s.d = _; rw [← hd]; unfold bt3; simp only [Nat.reduceSub, Nat.reducePow]; omega
theorem ctr_num {s : W4} (h : s.ok) (n : Nat) : (ctrW s n).num = (s.num + n) % 340282366920938463463374607431768211456 := by
 unfold W4.ok at h
 obtain ⟨a, b, c, d⟩ := s
 simp only at h
 unfold ctrW joinW W4.num
 simp only
 obtain ⟨H, hH⟩ : ∃ H, H = a * 4294967296 + b := ⟨_, rfl⟩
 obtain ⟨L, hL⟩ : ∃ L, L = c * 4294967296 + d + n := ⟨_, rfl⟩
 obtain ⟨q, hq⟩ : ∃ q, q = L / 18446744073709551616 := ⟨_, rfl⟩
 rw [← hL, ← hH, ← hq]
 have e : ((H * 4294967296 + c) * 4294967296 + d + n) = (H + q) * 18446744073709551616 + L % 18446744073709551616 := by omega
 rw [e]
 clear e hL hH
 generalize H + q = Q
 have hl : L % 18446744073709551616 < 18446744073709551616 := Nat.mod_lt _ (by decide)
 generalize L % 18446744073709551616 = l at hl ⊢
 clear hq
 omega
theorem plus_sb {s : W4} (h : s.ok) (n j : Nat) (hj : j < 16) : (sb s j + crr s.num n (15 - j)) % 256 = sb (ctrW s n) j := by
 rw [sb_num h j hj, sb_num (ctrW_ok s n) j hj, ctr_num h, digit_mod _ _ (by omega), crr_digit]
theorem sb_join (x y : Nat) (hx : x < 18446744073709551616) (hy : y < 18446744073709551616) (j : Nat) (hj : j < 16) : sb (joinW x y) j = if j < 8 then byteK x j else byteK y (j - 8) := by
 obtain ⟨a0, a1, a2, a3, a4, a5, a6, a7⟩ := byteK_hi x hx
 obtain ⟨b0, b1, b2, b3, b4, b5, b6, b7⟩ := byteK_hi y hy
 rcases sixteen hj with rfl | rfl | rfl | rfl | rfl | rfl | rfl | rfl | rfl | rfl | rfl | rfl | rfl | rfl | rfl | rfl
 ·exact a0.symm
 ·exact a1.symm
 ·exact a2.symm
 ·exact a3.symm
 ·exact a4.symm
 ·exact a5.symm
 ·exact a6.symm
 ·exact a7.symm
 ·exact b0.symm
 ·exact b1.symm
 ·exact b2.symm
 ·exact b3.symm
 ·exact b4.symm
 ·exact b5.symm
 ·exact b6.symm
 ·exact b7.symm
theorem sb_hi {y : W4} (h : y.ok) (j : Nat) (hj : j < 8) : sb y j = byteK y.hi j := by
 have := sb_join y.hi y.lo (W4.hi_lt h) (W4.lo_lt h) j (by omega)
 rw [joinW_halves h, if_pos hj] at this
 exact this
theorem sb_lo {y : W4} (h : y.ok) (j : Nat) (hj : j < 8) : sb y (8 + j) = byteK y.lo j := by
 have := sb_join y.hi y.lo (W4.hi_lt h) (W4.lo_lt h) (8 + j) (by omega)
 rw [joinW_halves h, if_neg (by omega), show 8 + j - 8 = j by omega] at this
 exact this
theorem byteK_xor (a b k : Nat) : byteK (a ^^^ b) k = Nat.xor (byteK a k) (byteK b k) := by
 show (a ^^^ b) / 256 ^ (7 - k) % 256 = (a / 256 ^ (7 - k) % 256) ^^^ (b / 256 ^ (7 - k) % 256)
 rw [show (256 : Nat) ^ (7 - k) = 2 ^ (8 * (7 - k)) by rw [Nat.pow_mul], Nat.xor_div_two_pow, show (256 : Nat) = 2 ^ 8 by decide, Nat.xor_mod_two_pow]
theorem by_sb (s : W4) (j : Nat) (hj : j < 16) : s.by j = sb s j := by
 rcases sixteen hj with rfl | rfl | rfl | rfl | rfl | rfl | rfl | rfl | rfl | rfl | rfl | rfl | rfl | rfl | rfl | rfl <;> rfl
end Go.Proofs.YtgmfiljjogdccabGreatDoor
namespace Go.Proofs.YtgmfiljjogdccabGreatDoor
open Go.RowKit Go.RwLone Go.Conc.Locks
set_option linter.unusedVariables false
set_option maxHeartbeats 1600000 in
set_option maxRecDepth 100000 in
theorem unwrap_mark (g nr n b po cap : Nat) (K : Nat → Nat) (f : Nat → Nat) (w : World) (h : KeyAt w g nr K) (hn : 2 ≤ n) (hm : n ≤ 512) (hcap : 8 + 8 * n ≤ cap) (hb : b < w.heap.size) (hbg : b ≠ g) (hp : ∀ i, i < 8 + 8 * n → w.cell? ⟨b, po + i, none⟩ = some (.int .u8 (f i : Nat))) (hf : ∀ i, f i < 256) (hbad : (aft (unStep nr K n) (6 * n) (un0 f)).1 ≠ 12008468691120727718) :
  Calls Tryz.prog 28 #[.pointer (some ⟨g, 0, none⟩), .slice (some ⟨b, po, none⟩) (8 + 8 * n) cap] w fun e w' => e = .returned (.tuple #[.slice none 0 0, .int .i64 22]) ∧ KeyAt w' g nr K ∧ Touch w w' g 4 1 := by
 have HK : Hid (KeyAt w g nr K) := h
 have HH : Hid (Calls Tryz.prog 41 #[.pointer (some ⟨g, 0, none⟩)] w fun e w' => e = .returned (.int .i64 0) ∧ w' = w.setCell ⟨g, 4, none⟩ (.int .i32 1)) := hold_ok g nr K w h
 have HG : Hid (g < w.heap.size) := h.ciph.here
 have HP : Hid (b < w.heap.size ∧ b ≠ g ∧ (∀ i, i < 8 + 8 * n → w.cell? ⟨b, po + i, none⟩ = some (.int .u8 (f i : Nat))) ∧ (∀ i, f i < 256) ∧ 8 + 8 * n ≤ cap) := ⟨hb, hbg, hp, hf, hcap⟩
 have HL : Hid (∀ u, Calls Tryz.prog 55 #[.int .i64 (8 + 8 * n : Nat), .int .i64 (24 : Nat), .int .i64 (4104 : Nat)] u fun e w' => e = .returned (.int .i64 0) ∧ w' = u) := fun u => checkLength_ok (8 + 8 * n) 24 4104 u (by omega) (by omega) (by omega) (by omega)
 obtain ⟨mk, HMK⟩ : ∃ x, Hid (x = (aft (unStep nr K n) (6 * n) (un0 f)).1) := ⟨_, rfl⟩
 have hmk : (((mk : Nat) : Int) != 12008468691120727718) = true := by have := HMK.out; simp; omega
 clear h hb hbg hp hf hbad
 obtain ⟨q, HQ⟩ : ∃ q, Hid (q = 8 * n) := ⟨_, rfl⟩
 obtain ⟨m, HM⟩ : ∃ m, Hid (m = 8 + q) := ⟨_, rfl⟩
 rw [← HQ.out, ← HM.out] at HL hcap
 rw [← HQ.out, ← HM.out]
 go_enter_defers Tryz.func28, Tryz.ntmps28
 go_wp2_with (first | (go_at_call 41; refine HH.out.mono ?_))
 rintro e1 w1 ⟨rfl, hw1⟩
 have H1 : Hid (Ciph w1 g 6 nr K ∧ Touch w w1 g 4 1 ∧ w1.cell? ⟨g, 4, none⟩ = some (.int .i32 1)) := held HK.out hw1
 clear hw1 HH
 go_wp2_with (first | (go_at_call 55; refine (HL.out _).mono ?_))
 rintro e2 w2 ⟨rfl, rfl⟩
 have HW : Hid (Calls Tryz.prog 58 #[.pointer (some ⟨g, 6, none⟩), .slice (some ⟨b, po, none⟩) m cap] w2 fun e w' => e = .returned (.tuple #[.slice (some ⟨w2.heap.size, 0, none⟩) q q, .int .u64 (mk : Nat)]) ∧ Halves w' w2.heap.size 0 n (aft (unStep nr K n) (6 * n) (un0 f)).2 ∧ Below w2.heap.size w2 w') := by
  rw [HM.out, HQ.out]
  obtain ⟨p1, p2, p3, p4, p5⟩ := HP.out
  have h := unwrap_ok g 6 nr n b po cap K f w2 H1.out.1 (by omega) (by omega) p5 (Nat.lt_of_lt_of_le p1 H1.out.2.1.size) (fun i hi => (H1.out.2.1.far p1 p2).trans (p3 i hi)) p4
  rw [← HMK.out] at h
  exact h
 go_wp2_with (first | (go_at_call 58; refine HW.out.mono ?_))
 rintro e3 w3 ⟨rfl, hh3, hb3⟩
 have H3 : Hid (Halves w3 w2.heap.size 0 n (aft (unStep nr K n) (6 * n) (un0 f)).2 ∧ Touch w w3 g 4 1 ∧ w3.cell? ⟨g, 4, none⟩ = some (.int .i32 1)) :=
  ⟨hh3, H1.out.2.1.below hb3 HG.out, (hb3.cell H1.out.1.here).trans H1.out.2.2⟩
 clear hh3 hb3
 go_wp2_with fail
 refine leaves_cons (f := 42) (args := #[.pointer (some ⟨g, 0, none⟩)]) (by simp) (by simp [go_sem]) ?_
 refine (unlocked HK.out H3.out.2.1 H3.out.2.2).mono ?_
 rintro e5 u5 w5 ⟨rfl, rfl, hk5, ht5, hw5⟩
 exact ⟨_, results_tmp2 rfl _ _ _, rfl, hk5, ht5⟩
end Go.Proofs.YtgmfiljjogdccabGreatDoor
namespace Go.Proofs.YtgmfiljjogdccabGreatDoor
open Go.RowKit
set_option linter.unusedVariables false
set_option maxHeartbeats 400000 in
theorem sameW (b1 b2 c1 c2 n : Nat) (f : Nat → Nat) (w : World) (hn : n ≤ 1000)
  (h1 : ∀ i, i < n → w.cell? ⟨b1, i, none⟩ = some (.int .u32 (f i : Nat)))
  (h2 : ∀ i, i < n → w.cell? ⟨b2, i, none⟩ = some (.int .u32 (f i : Nat))) :
  Calls Tryz.prog 34 #[.slice (some ⟨b1, 0, none⟩) n c1, .slice (some ⟨b2, 0, none⟩) n c2] w fun e w' => e = .returned (.bool true) ∧ ∃ m, w' = w.drewN m := by
 go_enter Tryz.func34, Tryz.ntmps34
 go_wp2
 go_loopw [5] (fun i wr => ∃ k : Nat, k ≤ n ∧ i = .int .i64 k ∧ ∃ m, wr = w.drewN m) (fun i _ => n - (intOf i).toNat)
 case atStart => exact ⟨0, Nat.zero_le _, rfl, 0, rfl⟩
 case round =>
  obtain ⟨k, hk, rfl, m, rfl⟩ := hrel
  by_cases hlt : k < n
  ·have g1 := h1 k hlt
   have g2 := h2 k hlt
   clear h1 h2
   obtain ⟨x, HX⟩ : ∃ x, Hid (x = f k) := ⟨_, rfl⟩
   rw [← HX.out] at g1 g2
   go_wp2
   go_quiet (fail)
   go_wp2
   go_roundw
   case rel => exact ⟨k + 1, by omega, by go_num, _, rfl⟩
   case measure => simp [intOf]; omega
  ·go_wp2
   go_ret
   exact ⟨rfl, _, rfl⟩
theorem size_nil (w : World) : Calls Tryz.prog 30 #[.pointer none] w fun e w' => e = .returned (.int .i64 0) ∧ w' = w := by
 have K1 : Hid (∀ u, Calls Tryz.prog 41 #[.pointer none] u fun e w' => e = .returned (.int .i64 1) ∧ w' = u) := hold_nil
 go_enter Tryz.func30, Tryz.ntmps30
 go_wp2_with (first | (go_at_call 41; (refine (K1.out _).mono ?_); (rintro e2 w2 ⟨rfl, hw2⟩; obtain rfl := hw2.symm)))
 go_ret
 exact ⟨rfl, rfl⟩
theorem rounds_nil (w : World) : Calls Tryz.prog 31 #[.pointer none] w fun e w' => e = .returned (.int .i64 0) ∧ w' = w := by
 have K1 : Hid (∀ u, Calls Tryz.prog 41 #[.pointer none] u fun e w' => e = .returned (.int .i64 1) ∧ w' = u) := hold_nil
 go_enter Tryz.func31, Tryz.ntmps31
 go_wp2_with (first | (go_at_call 41; (refine (K1.out _).mono ?_); (rintro e2 w2 ⟨rfl, hw2⟩; obtain rfl := hw2.symm)))
 go_ret
 exact ⟨rfl, rfl⟩
theorem words_nil (w : World) : Calls Tryz.prog 32 #[.pointer none] w fun e w' => e = .returned (.slice none 0 0) ∧ w' = w := by
 have K1 : Hid (∀ u, Calls Tryz.prog 41 #[.pointer none] u fun e w' => e = .returned (.int .i64 1) ∧ w' = u) := hold_nil
 go_enter Tryz.func32, Tryz.ntmps32
 go_wp2_with (first | (go_at_call 41; (refine (K1.out _).mono ?_); (rintro e2 w2 ⟨rfl, hw2⟩; obtain rfl := hw2.symm)))
 go_ret
 exact ⟨rfl, rfl⟩
set_option maxHeartbeats 800000 in
set_option maxRecDepth 100000 in
theorem rnew_bad (a : Option Addr) (n cap : Nat) (w : World) (h : n ≠ 16 ∧ n ≠ 24 ∧ n ≠ 32) : Calls Tryz.prog 5 #[.slice a n cap] w fun e w' => e = .returned (.tuple #[.pointer none, .int .i64 20]) ∧ w' = w := by
 have h1 : (((n : Nat) : Int) != 16) = true := by simp; omega
 have h2 : (((n : Nat) : Int) != 24) = true := by simp; omega
 have h3 : (((n : Nat) : Int) != 32) = true := by simp; omega
 clear h
 go_enter Tryz.func5, Tryz.ntmps5
 go_wp2
 go_ret2
 exact ⟨rfl, rfl⟩
end Go.Proofs.YtgmfiljjogdccabGreatDoor
namespace Go.Proofs.YtgmfiljjogdccabGreatDoor
open Go.RowKit Go.RwLone
set_option linter.unusedVariables false
set_option linter.unusedSimpArgs false
set_option maxHeartbeats 3200000 in
set_option maxRecDepth 100000 in
theorem kdec_ok (g nr : Nat) (K : Nat → Nat) (s : W4) (w : World) (h : KeyAt w g nr K) (hs : s.ok) :
  Calls Tryz.prog 22 #[.pointer (some ⟨g, 0, none⟩), s.blk] w fun e w' => e = .returned (.tuple #[(dcW nr K s).blk, .int .i64 0]) ∧ KeyAt w' g nr K ∧ Touch w w' g 4 1 := by
 have HK : Hid (KeyAt w g nr K) := h
 have HG : Hid (g < w.heap.size) := h.ciph.here
 clear h
 obtain ⟨⟨n0, n1, n2, n3⟩, HN⟩ : ∃ t, Hid (t = dcW nr K s) := ⟨_, rfl⟩
 have HB2 : Hid (Below w.heap.size w ((w.alloc (.cells #[.int .u8 (bt0 s.a : Nat), .int .u8 (bt1 s.a : Nat), .int .u8 (bt2 s.a : Nat), .int .u8 (bt3 s.a : Nat), .int .u8 (bt0 s.b : Nat), .int .u8 (bt1 s.b : Nat), .int .u8 (bt2 s.b : Nat), .int .u8 (bt3 s.b : Nat), .int .u8 (bt0 s.c : Nat), .int .u8 (bt1 s.c : Nat), .int .u8 (bt2 s.c : Nat), .int .u8 (bt3 s.c : Nat), .int .u8 (bt0 s.d : Nat), .int .u8 (bt1 s.d : Nat), .int .u8 (bt2 s.d : Nat), .int .u8 (bt3 s.d : Nat)] 38)).alloc (.cells #[.int .u8 0, .int .u8 0, .int .u8 0, .int .u8 0, .int .u8 0, .int .u8 0, .int .u8 0, .int .u8 0, .int .u8 0, .int .u8 0, .int .u8 0, .int .u8 0, .int .u8 0, .int .u8 0, .int .u8 0, .int .u8 0] 38))) := (two_allocs w _ _ 38 38).1
 have HK2 : Hid (KeyAt ((w.alloc (.cells #[.int .u8 (bt0 s.a : Nat), .int .u8 (bt1 s.a : Nat), .int .u8 (bt2 s.a : Nat), .int .u8 (bt3 s.a : Nat), .int .u8 (bt0 s.b : Nat), .int .u8 (bt1 s.b : Nat), .int .u8 (bt2 s.b : Nat), .int .u8 (bt3 s.b : Nat), .int .u8 (bt0 s.c : Nat), .int .u8 (bt1 s.c : Nat), .int .u8 (bt2 s.c : Nat), .int .u8 (bt3 s.c : Nat), .int .u8 (bt0 s.d : Nat), .int .u8 (bt1 s.d : Nat), .int .u8 (bt2 s.d : Nat), .int .u8 (bt3 s.d : Nat)] 38)).alloc (.cells #[.int .u8 0, .int .u8 0, .int .u8 0, .int .u8 0, .int .u8 0, .int .u8 0, .int .u8 0, .int .u8 0, .int .u8 0, .int .u8 0, .int .u8 0, .int .u8 0, .int .u8 0, .int .u8 0, .int .u8 0, .int .u8 0] 38)) g nr K) := HK.out.below HB2.out HG.out
 have HH : Hid (Calls Tryz.prog 41 #[.pointer (some ⟨g, 0, none⟩)] ((w.alloc (.cells #[.int .u8 (bt0 s.a : Nat), .int .u8 (bt1 s.a : Nat), .int .u8 (bt2 s.a : Nat), .int .u8 (bt3 s.a : Nat), .int .u8 (bt0 s.b : Nat), .int .u8 (bt1 s.b : Nat), .int .u8 (bt2 s.b : Nat), .int .u8 (bt3 s.b : Nat), .int .u8 (bt0 s.c : Nat), .int .u8 (bt1 s.c : Nat), .int .u8 (bt2 s.c : Nat), .int .u8 (bt3 s.c : Nat), .int .u8 (bt0 s.d : Nat), .int .u8 (bt1 s.d : Nat), .int .u8 (bt2 s.d : Nat), .int .u8 (bt3 s.d : Nat)] 38)).alloc (.cells #[.int .u8 0, .int .u8 0, .int .u8 0, .int .u8 0, .int .u8 0, .int .u8 0, .int .u8 0, .int .u8 0, .int .u8 0, .int .u8 0, .int .u8 0, .int .u8 0, .int .u8 0, .int .u8 0, .int .u8 0, .int .u8 0] 38)) fun e w' => e = .returned (.int .i64 0) ∧ w' = (((w.alloc (.cells #[.int .u8 (bt0 s.a : Nat), .int .u8 (bt1 s.a : Nat), .int .u8 (bt2 s.a : Nat), .int .u8 (bt3 s.a : Nat), .int .u8 (bt0 s.b : Nat), .int .u8 (bt1 s.b : Nat), .int .u8 (bt2 s.b : Nat), .int .u8 (bt3 s.b : Nat), .int .u8 (bt0 s.c : Nat), .int .u8 (bt1 s.c : Nat), .int .u8 (bt2 s.c : Nat), .int .u8 (bt3 s.c : Nat), .int .u8 (bt0 s.d : Nat), .int .u8 (bt1 s.d : Nat), .int .u8 (bt2 s.d : Nat), .int .u8 (bt3 s.d : Nat)] 38)).alloc (.cells #[.int .u8 0, .int .u8 0, .int .u8 0, .int .u8 0, .int .u8 0, .int .u8 0, .int .u8 0, .int .u8 0, .int .u8 0, .int .u8 0, .int .u8 0, .int .u8 0, .int .u8 0, .int .u8 0, .int .u8 0, .int .u8 0] 38))).setCell ⟨g, 4, none⟩ (.int .i32 1)) := hold_ok g nr K _ HK2.out
 have HE : Hid (∀ u, Ciph u g 6 nr K → Calls Tryz.prog 50 #[.pointer (some ⟨g, 6, none⟩), .agg #[.int .u8 (bt0 s.a : Nat), .int .u8 (bt1 s.a : Nat), .int .u8 (bt2 s.a : Nat), .int .u8 (bt3 s.a : Nat), .int .u8 (bt0 s.b : Nat), .int .u8 (bt1 s.b : Nat), .int .u8 (bt2 s.b : Nat), .int .u8 (bt3 s.b : Nat), .int .u8 (bt0 s.c : Nat), .int .u8 (bt1 s.c : Nat), .int .u8 (bt2 s.c : Nat), .int .u8 (bt3 s.c : Nat), .int .u8 (bt0 s.d : Nat), .int .u8 (bt1 s.d : Nat), .int .u8 (bt2 s.d : Nat), .int .u8 (bt3 s.d : Nat)]] u fun e u' => e = .returned (.agg #[.int .u8 (bt0 n0 : Nat), .int .u8 (bt1 n0 : Nat), .int .u8 (bt2 n0 : Nat), .int .u8 (bt3 n0 : Nat), .int .u8 (bt0 n1 : Nat), .int .u8 (bt1 n1 : Nat), .int .u8 (bt2 n1 : Nat), .int .u8 (bt3 n1 : Nat), .int .u8 (bt0 n2 : Nat), .int .u8 (bt1 n2 : Nat), .int .u8 (bt2 n2 : Nat), .int .u8 (bt3 n2 : Nat), .int .u8 (bt0 n3 : Nat), .int .u8 (bt1 n3 : Nat), .int .u8 (bt2 n3 : Nat), .int .u8 (bt3 n3 : Nat)]) ∧ Below u.heap.size u u') := fun u hu => by
  have := dec_ok g 6 nr K s u hu hs
  rw [← HN.out] at this
  exact this
 clear hs
 have HSZ : Hid (((w.alloc (.cells #[.int .u8 (bt0 s.a : Nat), .int .u8 (bt1 s.a : Nat), .int .u8 (bt2 s.a : Nat), .int .u8 (bt3 s.a : Nat), .int .u8 (bt0 s.b : Nat), .int .u8 (bt1 s.b : Nat), .int .u8 (bt2 s.b : Nat), .int .u8 (bt3 s.b : Nat), .int .u8 (bt0 s.c : Nat), .int .u8 (bt1 s.c : Nat), .int .u8 (bt2 s.c : Nat), .int .u8 (bt3 s.c : Nat), .int .u8 (bt0 s.d : Nat), .int .u8 (bt1 s.d : Nat), .int .u8 (bt2 s.d : Nat), .int .u8 (bt3 s.d : Nat)] 38)).alloc (.cells #[.int .u8 0, .int .u8 0, .int .u8 0, .int .u8 0, .int .u8 0, .int .u8 0, .int .u8 0, .int .u8 0, .int .u8 0, .int .u8 0, .int .u8 0, .int .u8 0, .int .u8 0, .int .u8 0, .int .u8 0, .int .u8 0] 38)).heap.size = w.heap.size + 2) := by show _ = _; simp
 have HTH : Hid (((w.alloc (.cells #[.int .u8 (bt0 s.a : Nat), .int .u8 (bt1 s.a : Nat), .int .u8 (bt2 s.a : Nat), .int .u8 (bt3 s.a : Nat), .int .u8 (bt0 s.b : Nat), .int .u8 (bt1 s.b : Nat), .int .u8 (bt2 s.b : Nat), .int .u8 (bt3 s.b : Nat), .int .u8 (bt0 s.c : Nat), .int .u8 (bt1 s.c : Nat), .int .u8 (bt2 s.c : Nat), .int .u8 (bt3 s.c : Nat), .int .u8 (bt0 s.d : Nat), .int .u8 (bt1 s.d : Nat), .int .u8 (bt2 s.d : Nat), .int .u8 (bt3 s.d : Nat)] 38)).alloc (.cells #[.int .u8 0, .int .u8 0, .int .u8 0, .int .u8 0, .int .u8 0, .int .u8 0, .int .u8 0, .int .u8 0, .int .u8 0, .int .u8 0, .int .u8 0, .int .u8 0, .int .u8 0, .int .u8 0, .int .u8 0, .int .u8 0] 38)).there (w.heap.size + 1) 0 16) := there_two w _ _ 38 38 rfl
 have HRG : Hid (((w.alloc (.cells #[.int .u8 (bt0 s.a : Nat), .int .u8 (bt1 s.a : Nat), .int .u8 (bt2 s.a : Nat), .int .u8 (bt3 s.a : Nat), .int .u8 (bt0 s.b : Nat), .int .u8 (bt1 s.b : Nat), .int .u8 (bt2 s.b : Nat), .int .u8 (bt3 s.b : Nat), .int .u8 (bt0 s.c : Nat), .int .u8 (bt1 s.c : Nat), .int .u8 (bt2 s.c : Nat), .int .u8 (bt3 s.c : Nat), .int .u8 (bt0 s.d : Nat), .int .u8 (bt1 s.d : Nat), .int .u8 (bt2 s.d : Nat), .int .u8 (bt3 s.d : Nat)] 38)).alloc (.cells #[.int .u8 0, .int .u8 0, .int .u8 0, .int .u8 0, .int .u8 0, .int .u8 0, .int .u8 0, .int .u8 0, .int .u8 0, .int .u8 0, .int .u8 0, .int .u8 0, .int .u8 0, .int .u8 0, .int .u8 0, .int .u8 0] 38)).rangeAt w.heap.size 0 [.int .u8 (bt0 s.a : Nat), .int .u8 (bt1 s.a : Nat), .int .u8 (bt2 s.a : Nat), .int .u8 (bt3 s.a : Nat), .int .u8 (bt0 s.b : Nat), .int .u8 (bt1 s.b : Nat), .int .u8 (bt2 s.b : Nat), .int .u8 (bt3 s.b : Nat), .int .u8 (bt0 s.c : Nat), .int .u8 (bt1 s.c : Nat), .int .u8 (bt2 s.c : Nat), .int .u8 (bt3 s.c : Nat), .int .u8 (bt0 s.d : Nat), .int .u8 (bt1 s.d : Nat), .int .u8 (bt2 s.d : Nat), .int .u8 (bt3 s.d : Nat)]) := fun j v hv => by simpa using (two_allocs w #[.int .u8 (bt0 s.a : Nat), .int .u8 (bt1 s.a : Nat), .int .u8 (bt2 s.a : Nat), .int .u8 (bt3 s.a : Nat), .int .u8 (bt0 s.b : Nat), .int .u8 (bt1 s.b : Nat), .int .u8 (bt2 s.b : Nat), .int .u8 (bt3 s.b : Nat), .int .u8 (bt0 s.c : Nat), .int .u8 (bt1 s.c : Nat), .int .u8 (bt2 s.c : Nat), .int .u8 (bt3 s.c : Nat), .int .u8 (bt0 s.d : Nat), .int .u8 (bt1 s.d : Nat), .int .u8 (bt2 s.d : Nat), .int .u8 (bt3 s.d : Nat)] #[.int .u8 0, .int .u8 0, .int .u8 0, .int .u8 0, .int .u8 0, .int .u8 0, .int .u8 0, .int .u8 0, .int .u8 0, .int .u8 0, .int .u8 0, .int .u8 0, .int .u8 0, .int .u8 0, .int .u8 0, .int .u8 0] 38 38).2 j v (by simpa using hv)
 show Calls Tryz.prog 22 #[.pointer (some ⟨g, 0, none⟩), .agg #[.int .u8 (bt0 s.a : Nat), .int .u8 (bt1 s.a : Nat), .int .u8 (bt2 s.a : Nat), .int .u8 (bt3 s.a : Nat), .int .u8 (bt0 s.b : Nat), .int .u8 (bt1 s.b : Nat), .int .u8 (bt2 s.b : Nat), .int .u8 (bt3 s.b : Nat), .int .u8 (bt0 s.c : Nat), .int .u8 (bt1 s.c : Nat), .int .u8 (bt2 s.c : Nat), .int .u8 (bt3 s.c : Nat), .int .u8 (bt0 s.d : Nat), .int .u8 (bt1 s.d : Nat), .int .u8 (bt2 s.d : Nat), .int .u8 (bt3 s.d : Nat)]] w _
 go_enter_defers Tryz.func22, Tryz.ntmps22
 go_wp2_with (first | (go_at_call 41; refine HH.out.mono ?_))
 rintro e1 w1 ⟨rfl, hw1⟩
 have H1 : Hid (Ciph w1 g 6 nr K ∧ Touch ((w.alloc (.cells #[.int .u8 (bt0 s.a : Nat), .int .u8 (bt1 s.a : Nat), .int .u8 (bt2 s.a : Nat), .int .u8 (bt3 s.a : Nat), .int .u8 (bt0 s.b : Nat), .int .u8 (bt1 s.b : Nat), .int .u8 (bt2 s.b : Nat), .int .u8 (bt3 s.b : Nat), .int .u8 (bt0 s.c : Nat), .int .u8 (bt1 s.c : Nat), .int .u8 (bt2 s.c : Nat), .int .u8 (bt3 s.c : Nat), .int .u8 (bt0 s.d : Nat), .int .u8 (bt1 s.d : Nat), .int .u8 (bt2 s.d : Nat), .int .u8 (bt3 s.d : Nat)] 38)).alloc (.cells #[.int .u8 0, .int .u8 0, .int .u8 0, .int .u8 0, .int .u8 0, .int .u8 0, .int .u8 0, .int .u8 0, .int .u8 0, .int .u8 0, .int .u8 0, .int .u8 0, .int .u8 0, .int .u8 0, .int .u8 0, .int .u8 0] 38)) w1 g 4 1 ∧ w1.cell? ⟨g, 4, none⟩ = some (.int .i32 1)) := by
  rw [hw1]
  refine ⟨held_ciph HK2.out 1, (Touch.refl _ g 4 1).setCell 4 _ (by omega) (by omega), ?_⟩
  have := (HK2.out.room 4 (by decide)).1
  exact World.cell?_setCell_same' _ _ _ (by simpa using this)
 clear hw1 HH
 have gl : Hid (∀ u, Below w1.heap.size w1 u → u.rangeAt w.heap.size 0 [.int .u8 (bt0 s.a : Nat), .int .u8 (bt1 s.a : Nat), .int .u8 (bt2 s.a : Nat), .int .u8 (bt3 s.a : Nat), .int .u8 (bt0 s.b : Nat), .int .u8 (bt1 s.b : Nat), .int .u8 (bt2 s.b : Nat), .int .u8 (bt3 s.b : Nat), .int .u8 (bt0 s.c : Nat), .int .u8 (bt1 s.c : Nat), .int .u8 (bt2 s.c : Nat), .int .u8 (bt3 s.c : Nat), .int .u8 (bt0 s.d : Nat), .int .u8 (bt1 s.d : Nat), .int .u8 (bt2 s.d : Nat), .int .u8 (bt3 s.d : Nat)]) := fun u hu j v hv => by
  have hs := H1.out.2.1.size
  have hz := HSZ.out
  have hgw := HG.out
  rw [hu.cell (p := ⟨w.heap.size, 0 + j, none⟩) (show w.heap.size < _ by omega), H1.out.2.1.far (p := ⟨w.heap.size, 0 + j, none⟩) (show w.heap.size < _ by omega) (show w.heap.size ≠ g by omega)]
  exact HRG.out j v hv
 go_wp2_with fail
 have hS0 : Below w1.heap.size w1 w1.drew := (Below.refl _ _).drew
 refine wp_region_noPanic ?_
 refine wp_region_till (fun u => Below w1.heap.size w1 u) 4 (by kernel_rfl) (by decide) (by decide +kernel) (by decide +kernel) (by decide +kernel) (fun inv => ?_)
 refine tU 0 16 (.pointer (some ⟨g, 0, none⟩)) inv rfl rfl hS0 fun inv => ?_
 simp only [pU]
 refine tU 1 17 (.pointer (some ⟨g, 0, none⟩)) inv rfl rfl hS0 fun inv => ?_
 simp only [pU]
 refine tU 2 18 (.pointer (some ⟨g, 6, none⟩)) inv rfl rfl hS0 fun inv => ?_
 simp only [pU]
 refine tT 3 19 (.agg #[.int .u8 (bt0 s.a : Nat), .int .u8 (bt1 s.a : Nat), .int .u8 (bt2 s.a : Nat), .int .u8 (bt3 s.a : Nat), .int .u8 (bt0 s.b : Nat), .int .u8 (bt1 s.b : Nat), .int .u8 (bt2 s.b : Nat), .int .u8 (bt3 s.b : Nat), .int .u8 (bt0 s.c : Nat), .int .u8 (bt1 s.c : Nat), .int .u8 (bt2 s.c : Nat), .int .u8 (bt3 s.c : Nat), .int .u8 (bt0 s.d : Nat), .int .u8 (bt1 s.d : Nat), .int .u8 (bt2 s.d : Nat), .int .u8 (bt3 s.d : Nat)]) inv rfl rfl (by decide +kernel) (hS0) (yieldsIf_load_mid (by rfl) 38 (.tmp 3) rfl w.heap.size 0 rfl [.int .u8 (bt0 s.a : Nat), .int .u8 (bt1 s.a : Nat), .int .u8 (bt2 s.a : Nat), .int .u8 (bt3 s.a : Nat), .int .u8 (bt0 s.b : Nat), .int .u8 (bt1 s.b : Nat), .int .u8 (bt2 s.b : Nat), .int .u8 (bt3 s.b : Nat), .int .u8 (bt0 s.c : Nat), .int .u8 (bt1 s.c : Nat), .int .u8 (bt2 s.c : Nat), .int .u8 (bt3 s.c : Nat), .int .u8 (bt0 s.d : Nat), .int .u8 (bt1 s.d : Nat), .int .u8 (bt2 s.d : Nat), .int .u8 (bt3 s.d : Nat)] _ (fun u hu => gl.out u hu) Tryz.underlying38 rfl size42) (fun inv => ?_)
 simp only [pU]
 refine till_tail (i := 4) (by decide +kernel) (by decide) rfl (fun K hK => ?_)
 go_simp
 refine (HE.out _ (H1.out.1.below hS0 H1.out.1.here)).mono ?_
 rintro e1 u2 ⟨rfl, hu2⟩
 go_wp2_with fail
 refine hK.out _ _ ?_
 clear hK K
 try simp only [pU]
 have HT2 : Hid (u2.there (w.heap.size + 1) 0 16 ∧ Touch w u2 g 4 1 ∧ u2.cell? ⟨g, 4, none⟩ = some (.int .i32 1)) := by
  have hs := H1.out.2.1.size
  have hz := HSZ.out
  have hgw := HG.out
  have hg1 := H1.out.1.here
  have hb : Below w1.heap.size w1 u2 := hS0.trans (hu2.mono (Nat.le_refl _))
  refine ⟨there_below (fun j hj => ?_) hb (by omega), ?_, (hb.cell hg1).trans H1.out.2.2⟩
  ·rw [H1.out.2.1.far (p := ⟨w.heap.size + 1, 0 + j, none⟩) (show w.heap.size + 1 < _ by omega) (show w.heap.size + 1 ≠ g by omega), H1.out.2.1.farFrozen (p := ⟨w.heap.size + 1, 0 + j, none⟩) (show w.heap.size + 1 < _ by omega) (show w.heap.size + 1 ≠ g by omega)]
   exact HTH.out j hj
  ·exact ((((Touch.refl w g 4 1).alloc _ hgw).alloc _ hgw).trans H1.out.2.1).below hb hgw
 refine till_tail (i := 5) (by decide +kernel) (by decide) rfl (fun K hK => ?_)
 rw [if_pos (by rfl)]
 refine wp_store_mid 38 (.tmp 4) (.tmp 20) rfl (w.heap.size + 1) 0 #[.int .u8 (bt0 n0 : Nat), .int .u8 (bt1 n0 : Nat), .int .u8 (bt2 n0 : Nat), .int .u8 (bt3 n0 : Nat), .int .u8 (bt0 n1 : Nat), .int .u8 (bt1 n1 : Nat), .int .u8 (bt2 n1 : Nat), .int .u8 (bt3 n1 : Nat), .int .u8 (bt0 n2 : Nat), .int .u8 (bt1 n2 : Nat), .int .u8 (bt2 n2 : Nat), .int .u8 (bt3 n2 : Nat), .int .u8 (bt0 n3 : Nat), .int .u8 (bt1 n3 : Nat), .int .u8 (bt2 n3 : Nat), .int .u8 (bt3 n3 : Nat)] rfl rfl (HT2.out.1) (size42) (by kernel_rfl) ?_
 refine hK.out _ _ ?_
 clear hK K
 try simp only [pU]
 refine till_tail (i := 6) (by kernel_rfl) (by decide) rfl (fun K hK => ?_)
 go_simp
 refine hK.out _ _ ?_
 clear hK K
 try simp only [pU]
 refine till_done (by decide +kernel) ?_ _
 refine NoPanic.normal ?_
 have HF : Hid ((u2.setCells (w.heap.size + 1) 0 [.int .u8 (bt0 n0 : Nat), .int .u8 (bt1 n0 : Nat), .int .u8 (bt2 n0 : Nat), .int .u8 (bt3 n0 : Nat), .int .u8 (bt0 n1 : Nat), .int .u8 (bt1 n1 : Nat), .int .u8 (bt2 n1 : Nat), .int .u8 (bt3 n1 : Nat), .int .u8 (bt0 n2 : Nat), .int .u8 (bt1 n2 : Nat), .int .u8 (bt2 n2 : Nat), .int .u8 (bt3 n2 : Nat), .int .u8 (bt0 n3 : Nat), .int .u8 (bt1 n3 : Nat), .int .u8 (bt2 n3 : Nat), .int .u8 (bt3 n3 : Nat)]).rangeAt (w.heap.size + 1) 0 [.int .u8 (bt0 n0 : Nat), .int .u8 (bt1 n0 : Nat), .int .u8 (bt2 n0 : Nat), .int .u8 (bt3 n0 : Nat), .int .u8 (bt0 n1 : Nat), .int .u8 (bt1 n1 : Nat), .int .u8 (bt2 n1 : Nat), .int .u8 (bt3 n1 : Nat), .int .u8 (bt0 n2 : Nat), .int .u8 (bt1 n2 : Nat), .int .u8 (bt2 n2 : Nat), .int .u8 (bt3 n2 : Nat), .int .u8 (bt0 n3 : Nat), .int .u8 (bt1 n3 : Nat), .int .u8 (bt2 n3 : Nat), .int .u8 (bt3 n3 : Nat)] ∧ Touch w (u2.setCells (w.heap.size + 1) 0 [.int .u8 (bt0 n0 : Nat), .int .u8 (bt1 n0 : Nat), .int .u8 (bt2 n0 : Nat), .int .u8 (bt3 n0 : Nat), .int .u8 (bt0 n1 : Nat), .int .u8 (bt1 n1 : Nat), .int .u8 (bt2 n1 : Nat), .int .u8 (bt3 n1 : Nat), .int .u8 (bt0 n2 : Nat), .int .u8 (bt1 n2 : Nat), .int .u8 (bt2 n2 : Nat), .int .u8 (bt3 n2 : Nat), .int .u8 (bt0 n3 : Nat), .int .u8 (bt1 n3 : Nat), .int .u8 (bt2 n3 : Nat), .int .u8 (bt3 n3 : Nat)]) g 4 1 ∧ (u2.setCells (w.heap.size + 1) 0 [.int .u8 (bt0 n0 : Nat), .int .u8 (bt1 n0 : Nat), .int .u8 (bt2 n0 : Nat), .int .u8 (bt3 n0 : Nat), .int .u8 (bt0 n1 : Nat), .int .u8 (bt1 n1 : Nat), .int .u8 (bt2 n1 : Nat), .int .u8 (bt3 n1 : Nat), .int .u8 (bt0 n2 : Nat), .int .u8 (bt1 n2 : Nat), .int .u8 (bt2 n2 : Nat), .int .u8 (bt3 n2 : Nat), .int .u8 (bt0 n3 : Nat), .int .u8 (bt1 n3 : Nat), .int .u8 (bt2 n3 : Nat), .int .u8 (bt3 n3 : Nat)]).cell? ⟨g, 4, none⟩ = some (.int .i32 1)) := by
  have hgw := HG.out
  refine ⟨World.rangeAt_setCells_same _ _ _ _ HT2.out.1, touch_new HT2.out.2.1 (Nat.le_succ _) _ _ hgw, ?_⟩
  rw [World.cell?_setCells_out (w.heap.size + 1) _ 0 u2 ⟨g, 4, none⟩ (fun e _ => absurd e (by simp; omega))]
  exact HT2.out.2.2
 generalize u2.setCells (w.heap.size + 1) 0 [.int .u8 (bt0 n0 : Nat), .int .u8 (bt1 n0 : Nat), .int .u8 (bt2 n0 : Nat), .int .u8 (bt3 n0 : Nat), .int .u8 (bt0 n1 : Nat), .int .u8 (bt1 n1 : Nat), .int .u8 (bt2 n1 : Nat), .int .u8 (bt3 n1 : Nat), .int .u8 (bt0 n2 : Nat), .int .u8 (bt1 n2 : Nat), .int .u8 (bt2 n2 : Nat), .int .u8 (bt3 n2 : Nat), .int .u8 (bt0 n3 : Nat), .int .u8 (bt1 n3 : Nat), .int .u8 (bt2 n3 : Nat), .int .u8 (bt3 n3 : Nat)] = w3 at HF ⊢
 clear hu2 hS0 gl
 go_wp2
 have hroom : w3.there g 0 1091 := HF.out.2.1.there _ _ HK.out.room
 obtain ⟨x0, c0⟩ := cell_of_there hroom 0 (by decide)
 obtain ⟨x2, c2⟩ := cell_of_there hroom 2 (by decide)
 have hz := (hroom 4 (by decide)).2
 have hcnt := HF.out.2.2
 refine leaves_cons (f := 42) (args := #[.pointer (some ⟨g, 0, none⟩)]) (by simp) (by simp [go_sem]) ?_
 refine (runlock_deferred rwRLib g 0 1 x0 x2 .returning _ c0 c2 hcnt hz (by decide +kernel)).mono ?_
 rintro e5 u5 w5 ⟨rfl, rfl, hw5⟩
 rw [show wrap32 (1 + -1) = 0 by decide +kernel] at hw5
 have hw5' : w5 = w3.setCells g 4 [.int .i32 0] := hw5
 have hg : g ≠ w.heap.size + 1 := by have := HG.out; omega
 have ht5 : Touch w w5 g 4 1 := by rw [hw5']; exact HF.out.2.1.setCells 4 _ (by omega) (by simp)
 have hc5 : w5.cell? ⟨g, 4, none⟩ = some (.int .i32 0) := by
  rw [hw5]
  exact World.cell?_setCell_same' _ _ _ (by rw [show (0 + 4) = 4 from rfl, hcnt]; rfl)
 have hr5 : w5.rangeAt (w.heap.size + 1) 0 [.int .u8 (bt0 n0 : Nat), .int .u8 (bt1 n0 : Nat), .int .u8 (bt2 n0 : Nat), .int .u8 (bt3 n0 : Nat), .int .u8 (bt0 n1 : Nat), .int .u8 (bt1 n1 : Nat), .int .u8 (bt2 n1 : Nat), .int .u8 (bt3 n1 : Nat), .int .u8 (bt0 n2 : Nat), .int .u8 (bt1 n2 : Nat), .int .u8 (bt2 n2 : Nat), .int .u8 (bt3 n2 : Nat), .int .u8 (bt0 n3 : Nat), .int .u8 (bt1 n3 : Nat), .int .u8 (bt2 n3 : Nat), .int .u8 (bt3 n3 : Nat)] := by rw [hw5']; exact World.rangeAt_setCells_apart HF.out.1 _ _ _ (Or.inl (Ne.symm hg))
 have hl := run_loadVar_mid (P := Tryz.prog) w5 (w.heap.size + 1) 0 38 [.int .u8 (bt0 n0 : Nat), .int .u8 (bt1 n0 : Nat), .int .u8 (bt2 n0 : Nat), .int .u8 (bt3 n0 : Nat), .int .u8 (bt0 n1 : Nat), .int .u8 (bt1 n1 : Nat), .int .u8 (bt2 n1 : Nat), .int .u8 (bt3 n1 : Nat), .int .u8 (bt0 n2 : Nat), .int .u8 (bt1 n2 : Nat), .int .u8 (bt2 n2 : Nat), .int .u8 (bt3 n2 : Nat), .int .u8 (bt0 n3 : Nat), .int .u8 (bt1 n3 : Nat), .int .u8 (bt2 n3 : Nat), .int .u8 (bt3 n3 : Nat)] _ hr5 Tryz.underlying38 rfl size42
 refine ⟨.tuple #[.agg #[.int .u8 (bt0 n0 : Nat), .int .u8 (bt1 n0 : Nat), .int .u8 (bt2 n0 : Nat), .int .u8 (bt3 n0 : Nat), .int .u8 (bt0 n1 : Nat), .int .u8 (bt1 n1 : Nat), .int .u8 (bt2 n1 : Nat), .int .u8 (bt3 n1 : Nat), .int .u8 (bt0 n2 : Nat), .int .u8 (bt1 n2 : Nat), .int .u8 (bt2 n2 : Nat), .int .u8 (bt3 n2 : Nat), .int .u8 (bt0 n3 : Nat), .int .u8 (bt1 n3 : Nat), .int .u8 (bt2 n3 : Nat), .int .u8 (bt3 n3 : Nat)], .int .i64 0], ?_, ?_, HK.out.touch ht5 hc5, ht5⟩
 ·rw [results_cell_tmp Tryz.results22]
  simp [asAddr, hl]
 ·rw [← HN.out]
  exact rfl
end Go.Proofs.YtgmfiljjogdccabGreatDoor
namespace Go.Proofs.YtgmfiljjogdccabGreatDoor
open Go.RowKit
set_option linter.unusedVariables false
theorem num_ok (x : Int) (w : World) : Calls Tryz.prog 6 #[.int .i64 x] w fun e w' => e = .returned (.int .i64 x) ∧ w' = w := by
 go_enter Tryz.func6, Tryz.ntmps6
 go_wp2
 go_ret
 exact ⟨rfl, rfl⟩
theorem wpList_load_want {P : Program} {ops : Array Oper} {rest : List Oper} {op : Oper} {a : Act} {w : World} {Q : Exit → Act → World → Prop} (hw : Region.wanted op (yielded ops a.tmps) = true) (ty : TypeId) (x : Operand) (ho : op.op = .load ty x)
  (b o : Nat) (hx : a.eval x = .pointer (some ⟨b, o, none⟩)) (cs : List Value) (d : TypeDesc) (hc : w.rangeAt b o cs) (hu : P.underlying ty = some d) (hd : d.isRow = true) (hi : (P.info? ty).map (·.size) = some cs.length)
  (h : wpList P ops Q rest (a.put op.dst (.agg cs.toArray)) w) : wpList P ops Q (op :: rest) a w :=
 wpList_step fun K hK => by
  rw [if_pos hw]
  exact wp_load_mid ty x ho b o hx cs d hc hu hd hi (hK _ _ h)
theorem RC.below {w w' : World} (h : RC w) (hb : Below w.heap.size w w') (h0 : 0 < w.heap.size) : RC w' := fun i hi => (hb.cell (p := ⟨0, i, none⟩) h0).trans (h i hi)
end Go.Proofs.YtgmfiljjogdccabGreatDoor
