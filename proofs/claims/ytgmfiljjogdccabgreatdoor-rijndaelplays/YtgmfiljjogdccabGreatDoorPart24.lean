import Derived.Test.YtgmfiljjogdccabGreatDoorPart17
import Derived.Test.YtgmfiljjogdccabGreatDoorDec
import Derived.Test.YtgmfiljjogdccabGreatDoorPart14
import Derived.Test.YtgmfiljjogdccabGreatDoorPart02
import Derived.Test.YtgmfiljjogdccabGreatDoorKEnc
import Derived.Test.YtgmfiljjogdccabGreatDoorKDec
import Derived.Test.YtgmfiljjogdccabGreatDoorInv2
import Derived.Test.YtgmfiljjogdccabGreatDoorPart06
namespace Go.Proofs.YtgmfiljjogdccabGreatDoor
open Go.RowKit
set_option linter.unusedVariables false
/-- What unwrapping begins with: A and the halves behind it. -/
def un0 (f : Nat → Nat) : Nat × (Nat → Nat) := (numK f 8, halfs (fun i => f (8 + i)))
theorem un0_ok {f : Nat → Nat} (hf : ∀ i, f i < 256) : Rok (un0 f) := by
 have h := numK_lt hf 8
 rw [show (256 : Nat) ^ 8 = 18446744073709551616 by decide] at h
 refine ⟨h, ?_⟩
 intro i
 show halfs (fun i => f (8 + i)) i < _
 exact halfs_lt (f := fun i => f (8 + i)) (fun i => hf _) i
set_option maxHeartbeats 1600000 in
set_option maxRecDepth 100000 in
theorem unwrap_ok (g o nr n b po cap : Nat) (K : Nat → Nat) (f : Nat → Nat) (w : World) (hC : Ciph w g o nr K) (hn : 1 ≤ n) (hm : n ≤ 1048576) (hcap : 8 + 8 * n ≤ cap) (hb : b < w.heap.size) (hp : ∀ i, i < 8 + 8 * n → w.cell? ⟨b, po + i, none⟩ = some (.int .u8 (f i : Nat))) (hf : ∀ i, f i < 256) :
  Calls Tryz.prog 58 #[.pointer (some ⟨g, o, none⟩), .slice (some ⟨b, po, none⟩) (8 + 8 * n) cap] w fun e w' => e = .returned (.tuple #[.slice (some ⟨w.heap.size, 0, none⟩) (8 * n) (8 * n), .int .u64 ((aft (unStep nr K n) (6 * n) (un0 f)).1 : Nat)]) ∧ Halves w' w.heap.size 0 n (aft (unStep nr K n) (6 * n) (un0 f)).2 ∧ Below w.heap.size w w' := by
 obtain ⟨i0, hi, hz0, hz1, hz2⟩ := info_parts Tryz.info5
 have HP : Hid (∀ i, i < 8 + 8 * n → w.cell? ⟨b, po + i, none⟩ = some (.int .u8 (f i : Nat))) := hp
 have HF : Hid (∀ i, f i < 256) := hf
 have HC : Hid (Ciph w g o nr K) := hC
 have HBB : Hid (b < w.heap.size) := hb
 obtain ⟨c8, rfl⟩ : ∃ c, cap = c + 8 := ⟨cap - 8, by omega⟩
 obtain ⟨q, HQ⟩ : ∃ q, Hid (q = 8 * n) := ⟨_, rfl⟩
 have hqi : (8 : Int) * (n : Nat) = (q : Nat) := by have := HQ.out; omega
 obtain ⟨m, HM⟩ : ∃ m, Hid (m = 8 + q) := ⟨_, rfl⟩
 rw [← HQ.out, ← HM.out] at hcap
 rw [← HQ.out, ← HM.out]
 obtain ⟨n1, HN1⟩ : ∃ n1, Hid (n1 = n + 1) := ⟨_, rfl⟩
 have hmd : ((m : Nat) : Int) / 8 = (n1 : Nat) := by have := HM.out; have := HQ.out; have := HN1.out; omega
 have hn1 : ((n1 : Nat) : Int) - 1 = (n : Nat) := by have := HN1.out; omega
 have hml : m ≤ 8388616 := by have := HM.out; have := HQ.out; omega
 have hql : q ≤ 8388608 := by have := HQ.out; omega
 have hm8 : 8 ≤ m := by have := HM.out; omega
 have hqm : m - 8 = q := by have := HM.out; omega
 obtain ⟨CS, HCS⟩ : ∃ cs, Hid (cs = (List.range (8 * n)).map fun i => Value.int .u8 (f (8 + i) : Nat)) := ⟨_, rfl⟩
 have HCL : Hid (CS.length = q) := by show _ = _; rw [HCS.out, HQ.out]; simp
 clear hp hf hC hb
 go_enter Tryz.func58, Tryz.ntmps58
 go_wp2_with (first
  | (at_make; go_must (refine wpList_make_full _ rfl _ _ 22 rfl w.heap.size 5 i0 (.int .u8 0) 1 Tryz.underlying22 hi hz0 hz1 .i64 .i64 (q : Nat) (q : Nat) q rfl rfl rfl rfl ?_ ?_ ?_ ?_)))
 ·rw [hz2]; omega
 ·unfold maxLen; omega
 ·exact Nat.le_refl _
 intro w1 hown hgr
 have HB1 : Hid (Below w.heap.size w w1) := (Below.refl _ _).grown hgr (Nat.le_refl _) (by intro k hk; cases hk)
 obtain ⟨cur, HG, HZ⟩ : ∃ cur : Array Value, Hid (w1.heap[w.heap.size]? = some (.cells cur 5 (0, 0))) ∧ Hid (cur.size = q) := by
  obtain ⟨_, ⟨h, _⟩ | ⟨g', c', cur, h, _, h2, _, _, h5, _⟩⟩ := hown
  ·cases h
  ·cases h; exact ⟨cur, h2, by show _ = _; omega⟩
 clear hown hgr
 obtain ⟨w2, HW2⟩ : ∃ w2, Hid (w2 = w1.setRow w.heap.size (cur.toList.take 0 ++ (CS ++ cur.toList.drop (0 + CS.length))).toArray) := ⟨_, rfl⟩
 have hcp : Sem.run Tryz.prog (Builtin.copy_ #[22, 22] 3 #[.slice (some ⟨w.heap.size, 0, none⟩) q q, .slice (some ⟨b, po + 8, none⟩) q c8]) w1 = .ok (.int .i64 (q : Nat)) w2 := by
  have h := run_copy_row (P := Tryz.prog) w1 22 22 3 5 w.heap.size 0 q q ⟨b, po + 8, none⟩ q c8 cur 5 CS Tryz.underlying22 (by rw [hi]; simp [hz1]) HG.out (by rw [HCL.out]; exact (Nat.min_self q).symm) (by
   intro j v hv
   rw [HCS.out] at hv
   simp at hv
   obtain ⟨j', h1, rfl⟩ := hv
   obtain ⟨h2, h3⟩ := List.getElem?_eq_some_iff.1 h1
   simp at h2 h3
   subst h3
   rw [Addr.add_mid, HB1.out.cell HBB.out, Nat.add_assoc]
   exact HP.out (8 + j) (by omega)) (by rw [HCL.out, HZ.out]; omega) (by
   intro v hv
   rw [HCS.out] at hv
   simp at hv
   obtain ⟨j, _, rfl⟩ := hv
   rfl)
  rw [HW2.out]
  rw [HCL.out] at h ⊢
  rw [List.append_assoc] at h
  exact h
 have HH : Hid (Halves w2 w.heap.size 0 n (un0 f).2) := by show Halves _ _ _ _ _; rw [HW2.out]; exact halves_copied cur (fun i => f (8 + i)) (fun i => HF.out _) CS HCS.out (by rw [HZ.out, HQ.out]; omega) HG.out
 have HB2 : Hid (Below w.heap.size w w2) := by show Below _ _ _; rw [HW2.out]; exact below_setRow HB1.out (Nat.le_refl _) _
 obtain ⟨A0, HA0⟩ : ∃ x, Hid (x = numK f 8) := ⟨_, rfl⟩
 have KN0 : Hid (Calls Tryz.prog 88 #[.slice (some ⟨b, po, none⟩) m (c8 + 8)] w2 fun e w' => e = .returned (.int .u64 (A0 : Nat)) ∧ w' = w2) := by
  rw [HA0.out]
  exact number_ok b po m (c8 + 8) f w2 hm8 hcap (fun i hi => (HB2.out.cell HBB.out).trans (HP.out i (by omega))) HF.out
 clear HG HZ HB1 HP HBB
 go_wp2_with (first | (go_at_call 88; refine KN0.out.mono ?_))
 rintro e0 w2' ⟨rfl, rfl⟩
 go_wp2
 go_loopw [8, 9] (fun a i wr => ∃ (k A : Nat) (z : Int) (R : Nat → Nat), k ≤ 6 * n ∧ z + 1 = (k : Nat) ∧ i = .int .i64 z ∧ a = .int .u64 (A : Nat) ∧ Hid (aft (unStep nr K n) k (A, R) = aft (unStep nr K n) (6 * n) (un0 f)) ∧ Hid (Rok (A, R)) ∧ Hid (Halves wr w.heap.size 0 n R) ∧ Hid (Below w.heap.size w wr)) (fun _ i _ => (intOf i + 1).toNat)
 case atStart =>
  refine ⟨6 * n, A0, _, (un0 f).2, Nat.le_refl _, ?_, rfl, rfl, ?_, ?_, HH, HB2⟩
  ·omega
  ·show _ = _; rw [HA0.out]; rfl
  ·show Rok _; rw [HA0.out]; exact un0_ok HF.out
 case round =>
  obtain ⟨k, A, z, R, hk, hz, rfl, rfl, HA, HW, HH3, HB3⟩ := hrel
  clear HH HB2 hcp KN0
  have HAl : Hid (A < 18446744073709551616) := HW.out.1
  by_cases hlt : 0 < k
  ·obtain ⟨k, rfl⟩ : ∃ k', k = k' + 1 := ⟨k - 1, by omega⟩
   obtain rfl : z = (k : Nat) := by omega
   clear hz
   have hk6 : k < 6291456 := by omega
   obtain ⟨i, HI⟩ : ∃ i, Hid (i = k % n) := ⟨_, rfl⟩
   have hil : i < n := by rw [HI.out]; exact Nat.mod_lt _ (by omega)
   have hmod : ((k : Nat) : Int) % ((n : Nat) : Int) = (i : Nat) := by rw [HI.out]; simp
   obtain ⟨j, HJ⟩ : ∃ j, Hid (j = 8 * i) := ⟨_, rfl⟩
   have hji : (8 : Int) * (i : Nat) = (j : Nat) := by have := HJ.out; omega
   have hjq : j + 8 ≤ q := by have h1 := HJ.out; have h2 := HQ.out; omega
   obtain ⟨r, HRr⟩ : ∃ r, Hid (r = R i) := ⟨_, rfl⟩
   have HRl : Hid (r < 18446744073709551616) := by show _ < _; rw [HRr.out]; exact HW.out.2 i
   have KN : Hid (Calls Tryz.prog 88 #[.slice (some ⟨w.heap.size, j, none⟩) (q - j) (q - j)] wr fun e w' => e = .returned (.int .u64 (r : Nat)) ∧ w' = wr) := by
    have h := number_ok w.heap.size j (q - j) (q - j) (byteK r) wr (by omega) (Nat.le_refl _) (fun k hk => by have h := HH3.out.cell i k hil hk; rw [Nat.zero_add] at h; rw [HJ.out, HRr.out]; exact h) (byteK_lt r)
    rw [numK_byteK r HRl.out] at h
    exact h
   obtain ⟨A1, HA1⟩ : ∃ x, Hid (x = Nat.xor A (k + 1)) := ⟨_, rfl⟩
   have hx : bits .xor .u64 ((A : Nat) : Int) (((k : Nat) : Int) + 1) = (A1 : Nat) := by rw [HA1.out]; exact xor64 A (k + 1) HAl.out (by omega)
   have HA1l : Hid (A1 < 18446744073709551616) := by show _ < _; rw [HA1.out]; exact Nat.xor_lt_two_pow (n := 64) HAl.out (by omega)
   obtain ⟨S, HS⟩ : ∃ S, Hid (S = joinW A1 r) := ⟨_, rfl⟩
   obtain ⟨T, HT⟩ : ∃ T, Hid (T = dcW nr K S) := ⟨_, rfl⟩
   have HSo : Hid S.ok := by show S.ok; rw [HS.out]; exact joinW_ok HA1l.out HRl.out
   have HTo : Hid T.ok := by show T.ok; rw [HT.out]; exact dcW_ok HC.out.small nr S
   have KJ : Hid (∀ u, Calls Tryz.prog 78 #[.int .u64 (A1 : Nat), .int .u64 (r : Nat)] u fun e u' => e = .returned S.blk ∧ Below u.heap.size u u') := fun u => by rw [HS.out]; exact join_ok A1 r HA1l.out HRl.out u
   obtain ⟨hv, HHV⟩ : ∃ x, Hid (x = T.a * 4294967296 + T.b) := ⟨_, rfl⟩
   obtain ⟨lv, HLV⟩ : ∃ x, Hid (x = T.c * 4294967296 + T.d) := ⟨_, rfl⟩
   have KH : Hid (∀ u, Calls Tryz.prog 76 #[T.blk] u fun e u' => e = .returned (.tuple #[.int .u64 (hv : Nat), .int .u64 (lv : Nat)]) ∧ Below u.heap.size u u') := fun u => by rw [HHV.out, HLV.out]; exact halves_ok T HTo.out u
   have HLl : Hid (lv < 18446744073709551616) := by show _ < _; rw [HLV.out]; exact W4.lo_lt HTo.out
   have KE : Hid (∀ u, Below wr.heap.size wr u → Calls Tryz.prog 50 #[.pointer (some ⟨g, o, none⟩), S.blk] u fun e u' => e = .returned T.blk ∧ Below u.heap.size u u') := fun u hb => by
    rw [HT.out]
    exact dec_ok g o nr K S u ((HC.out.below HB3.out HC.out.here).below hb (Nat.lt_of_lt_of_le HC.out.here HB3.out.size)) HSo.out
   have HST : Hid (unStep nr K n k (A, R) = (hv, setR R i lv)) := by
    show _ = _
    rw [HHV.out, HLV.out, HT.out, HS.out, HA1.out, HRr.out, HI.out]
    rfl
   generalize hSb : S.blk = sb at KJ KE
   generalize hTb : T.blk = tb at KE KH
   have HSb : Hid (S.blk = sb) := hSb
   have HTb : Hid (T.blk = tb) := hTb
   clear hSb hTb
   go_wp2_with (first | (go_at_call 88; refine KN.out.mono ?_))
   rintro e1 w1' ⟨rfl, rfl⟩
   go_wp2_with (first | (go_at_call 78; refine (KJ.out _).mono ?_))
   rintro e2 u2 ⟨rfl, hb2⟩
   have HU2 : Hid (Below w1'.heap.size w1' u2) := hb2
   clear hb2
   go_wp2_with (first | (go_at_call 50; refine (KE.out _ HU2.out).mono ?_))
   rintro e3 u3 ⟨rfl, hb3⟩
   have HU3 : Hid (Below w1'.heap.size w1' u3) := HU2.out.trans (hb3.mono HU2.out.size)
   clear hb3 HU2
   go_wp2_with (first | (go_at_call 76; refine (KH.out _).mono ?_))
   rintro e4 u4 ⟨rfl, hb4⟩
   have HU4 : Hid (Below w1'.heap.size w1' u4) := HU3.out.trans (hb4.mono HU3.out.size)
   clear hb4 HU3
   have HH4 : Hid (Halves u4 w.heap.size 0 n R) := HH3.out.below HU4.out HH3.out.here
   have HB4 : Hid (Below w.heap.size w u4) := HB3.out.trans (HU4.out.mono HB3.out.size)
   have KP : Hid (Calls Tryz.prog 89 #[.slice (some ⟨w.heap.size, j, none⟩) (q - j) (q - j), .int .u64 (lv : Nat)] u4 fun e w' => e = .returned (.tuple #[]) ∧ Touch u4 w' w.heap.size j 8 ∧ ∀ k, k < 8 → w'.cell? ⟨w.heap.size, j + k, none⟩ = some (.int .u8 (byteK lv k : Nat))) :=
    put_ok w.heap.size j (q - j) (q - j) lv u4 (by omega) HLl.out (there_mid (a := 0) HH4.out.room j 8 (by have h1 := HJ.out; omega))
   go_wp2_with (first | (go_at_call 89; refine KP.out.mono ?_))
   rintro e5 u5 ⟨rfl, ht5, hc5⟩
   have HH5 : Hid (Halves u5 w.heap.size 0 n (setR R i lv)) := HH4.out.put i lv hil (by rw [Nat.zero_add, ← HJ.out]; exact ht5) (by rw [Nat.zero_add, ← HJ.out]; exact hc5)
   have HB5 : Hid (Below w.heap.size w u5) := HB4.out.trans (ht5.toBelow (Nat.le_refl _) HB4.out.size)
   have HA5 : Hid (aft (unStep nr K n) k (hv, setR R i lv) = aft (unStep nr K n) (6 * n) (un0 f)) := by
    show _ = _
    rw [← HST.out, ← aft_succ]
    exact HA.out
   have HW5 : Hid (Rok (hv, setR R i lv)) := by
    show Rok _
    rw [← HST.out]
    exact unStep_ok HC.out.small nr n k HW.out
   clear ht5 hc5
   go_wp2
   go_roundw
   case rel => exact ⟨k, hv, _, setR R i lv, by omega, by omega, rfl, rfl, HA5, HW5, HH5, HB5⟩
   case measure => simp [intOf]
  ·obtain rfl : k = 0 := by omega
   obtain rfl : z = -1 := by omega
   have HA6 : Hid ((A, R) = aft (unStep nr K n) (6 * n) (un0 f)) := HA.out
   clear HA
   go_wp2
   go_ret2
   rw [← HA6.out]
   exact ⟨rfl, HH3.out, HB3.out⟩
end Go.Proofs.YtgmfiljjogdccabGreatDoor
namespace Go.Proofs.YtgmfiljjogdccabGreatDoor
open Go.RowKit Go.RwLone
set_option linter.unusedVariables false
theorem Halves.far {w w' : World} {s off n g o c : Nat} {R : Nat → Nat} (h : Halves w s off n R) (ht : Touch w w' g o c) (hne : s ≠ g) : Halves w' s off n R :=
 ⟨Nat.lt_of_lt_of_le h.here ht.size, fun j hj => ⟨by rw [ht.far h.here hne]; exact (h.room j hj).1, by rw [ht.farFrozen h.here hne]; exact (h.room j hj).2⟩, fun i k hi hk => (ht.far h.here hne).trans (h.cell i k hi hk)⟩
set_option maxHeartbeats 1600000 in
set_option maxRecDepth 100000 in
theorem kwrap_ok (g nr n b po cap : Nat) (K : Nat → Nat) (f : Nat → Nat) (w : World) (h : KeyAt w g nr K) (hn : 2 ≤ n) (hm : n ≤ 512) (hcap : 8 * n ≤ cap) (hb : b < w.heap.size) (hbg : b ≠ g) (hp : ∀ i, i < 8 * n → w.cell? ⟨b, po + i, none⟩ = some (.int .u8 (f i : Nat))) (hf : ∀ i, f i < 256) :
  Calls Tryz.prog 26 #[.pointer (some ⟨g, 0, none⟩), .slice (some ⟨b, po, none⟩) (8 * n) cap] w fun e w' => ∃ s, e = .returned (.tuple #[.slice (some ⟨s, 0, none⟩) (8 + 8 * n) (8 + 8 * n), .int .i64 0]) ∧ w.heap.size ≤ s ∧ Halves w' s 8 n (wrapF nr K n f (6 * n)).2 ∧ (∀ k, k < 8 → w'.cell? ⟨s, k, none⟩ = some (.int .u8 (byteK (wrapF nr K n f (6 * n)).1 k : Nat))) ∧ KeyAt w' g nr K ∧ Touch w w' g 4 1 := by
 have HK : Hid (KeyAt w g nr K) := h
 have HH : Hid (Calls Tryz.prog 41 #[.pointer (some ⟨g, 0, none⟩)] w fun e w' => e = .returned (.int .i64 0) ∧ w' = w.setCell ⟨g, 4, none⟩ (.int .i32 1)) := hold_ok g nr K w h
 have HG : Hid (g < w.heap.size) := h.ciph.here
 have HP : Hid (b < w.heap.size ∧ b ≠ g ∧ (∀ i, i < 8 * n → w.cell? ⟨b, po + i, none⟩ = some (.int .u8 (f i : Nat))) ∧ (∀ i, f i < 256) ∧ 8 * n ≤ cap) := ⟨hb, hbg, hp, hf, hcap⟩
 have HL : Hid (∀ u, Calls Tryz.prog 55 #[.int .i64 (8 * n : Nat), .int .i64 (16 : Nat), .int .i64 (4096 : Nat)] u fun e w' => e = .returned (.int .i64 0) ∧ w' = u) := fun u => checkLength_ok (8 * n) 16 4096 u (by omega) (by omega) (by omega) (by omega)
 clear h hb hbg hp hf
 obtain ⟨m, HM⟩ : ∃ m, Hid (m = 8 * n) := ⟨_, rfl⟩
 rw [← HM.out] at HL hcap ⊢
 obtain ⟨q, HQ⟩ : ∃ q, Hid (q = 8 + m) := ⟨_, rfl⟩
 rw [← HQ.out]
 go_enter_defers Tryz.func26, Tryz.ntmps26
 go_wp2_with (first | (go_at_call 41; refine HH.out.mono ?_))
 rintro e1 w1 ⟨rfl, hw1⟩
 have H1 : Hid (Ciph w1 g 6 nr K ∧ Touch w w1 g 4 1 ∧ w1.cell? ⟨g, 4, none⟩ = some (.int .i32 1)) := held HK.out hw1
 clear hw1 HH
 go_wp2_with (first | (go_at_call 55; refine (HL.out _).mono ?_))
 rintro e2 w2 ⟨rfl, rfl⟩
 have HW : Hid (Calls Tryz.prog 56 #[.pointer (some ⟨g, 6, none⟩), .slice (some ⟨b, po, none⟩) m cap] w2 fun e w' => e = .returned (.slice (some ⟨w2.heap.size, 0, none⟩) (8 + 8 * n) (8 + 8 * n)) ∧ Halves w' w2.heap.size 8 n (wrapF nr K n f (6 * n)).2 ∧ (∀ k, k < 8 → w'.cell? ⟨w2.heap.size, k, none⟩ = some (.int .u8 (byteK (wrapF nr K n f (6 * n)).1 k : Nat))) ∧ Below w2.heap.size w2 w') := by
  rw [HM.out]
  obtain ⟨p1, p2, p3, p4, p5⟩ := HP.out
  exact wrap_ok g 6 nr n b po cap K f w2 H1.out.1 (by omega) (by omega) p5 (Nat.lt_of_lt_of_le p1 H1.out.2.1.size) (fun i hi => (H1.out.2.1.far p1 p2).trans (p3 i hi)) p4
 rw [← HM.out, ← HQ.out] at HW
 go_wp2_with (first | (go_at_call 56; refine HW.out.mono ?_))
 rintro e3 w3 ⟨rfl, hh3, hc3, hb3⟩
 have H3 : Hid (Halves w3 w2.heap.size 8 n (wrapF nr K n f (6 * n)).2 ∧ (∀ k, k < 8 → w3.cell? ⟨w2.heap.size, k, none⟩ = some (.int .u8 (byteK (wrapF nr K n f (6 * n)).1 k : Nat))) ∧ Touch w w3 g 4 1 ∧ w3.cell? ⟨g, 4, none⟩ = some (.int .i32 1)) :=
  ⟨hh3, hc3, H1.out.2.1.below hb3 HG.out, (hb3.cell H1.out.1.here).trans H1.out.2.2⟩
 clear hh3 hc3 hb3
 go_wp2_with fail
 refine leaves_cons (f := 42) (args := #[.pointer (some ⟨g, 0, none⟩)]) (by simp) (by simp [go_sem]) ?_
 refine (unlocked HK.out H3.out.2.2.1 H3.out.2.2.2).mono ?_
 rintro e5 u5 w5 ⟨rfl, rfl, hk5, ht5, hw5⟩
 have ht : Touch w3 w5 g 4 1 := by rw [hw5]; exact (Touch.refl w3 g 4 1).setCells 4 _ (by omega) (by simp)
 have hsz := H1.out.2.1.size
 have hgw := HG.out
 have hne : w2.heap.size ≠ g := by omega
 refine ⟨_, results_tmp2 rfl _ _ _, w2.heap.size, rfl, hsz, H3.out.1.far ht hne, fun k hk => ?_, hk5, ht5⟩
 exact (ht.far (p := ⟨w2.heap.size, k, none⟩) H3.out.1.here hne).trans (H3.out.2.1 k hk)
end Go.Proofs.YtgmfiljjogdccabGreatDoor
namespace Go.Proofs.YtgmfiljjogdccabGreatDoor
open Go.RowKit Go.RwLone
set_option linter.unusedVariables false
set_option maxHeartbeats 1600000 in
set_option maxRecDepth 100000 in
theorem kunwrap_ok (g nr n b po cap : Nat) (K : Nat → Nat) (f : Nat → Nat) (w : World) (h : KeyAt w g nr K) (hn : 2 ≤ n) (hm : n ≤ 512) (hcap : 8 + 8 * n ≤ cap) (hb : b < w.heap.size) (hbg : b ≠ g) (hp : ∀ i, i < 8 + 8 * n → w.cell? ⟨b, po + i, none⟩ = some (.int .u8 (f i : Nat))) (hf : ∀ i, f i < 256) (hgood : (aft (unStep nr K n) (6 * n) (un0 f)).1 = 12008468691120727718) :
  Calls Tryz.prog 28 #[.pointer (some ⟨g, 0, none⟩), .slice (some ⟨b, po, none⟩) (8 + 8 * n) cap] w fun e w' => ∃ s, e = .returned (.tuple #[.slice (some ⟨s, 0, none⟩) (8 * n) (8 * n), .int .i64 0]) ∧ w.heap.size ≤ s ∧ Halves w' s 0 n (aft (unStep nr K n) (6 * n) (un0 f)).2 ∧ KeyAt w' g nr K ∧ Touch w w' g 4 1 := by
 have HK : Hid (KeyAt w g nr K) := h
 have HH : Hid (Calls Tryz.prog 41 #[.pointer (some ⟨g, 0, none⟩)] w fun e w' => e = .returned (.int .i64 0) ∧ w' = w.setCell ⟨g, 4, none⟩ (.int .i32 1)) := hold_ok g nr K w h
 have HG : Hid (g < w.heap.size) := h.ciph.here
 have HP : Hid (b < w.heap.size ∧ b ≠ g ∧ (∀ i, i < 8 + 8 * n → w.cell? ⟨b, po + i, none⟩ = some (.int .u8 (f i : Nat))) ∧ (∀ i, f i < 256) ∧ 8 + 8 * n ≤ cap) := ⟨hb, hbg, hp, hf, hcap⟩
 have HL : Hid (∀ u, Calls Tryz.prog 55 #[.int .i64 (8 + 8 * n : Nat), .int .i64 (24 : Nat), .int .i64 (4104 : Nat)] u fun e w' => e = .returned (.int .i64 0) ∧ w' = u) := fun u => checkLength_ok (8 + 8 * n) 24 4104 u (by omega) (by omega) (by omega) (by omega)
 have HGD : Hid ((aft (unStep nr K n) (6 * n) (un0 f)).1 = 12008468691120727718) := hgood
 clear h hb hbg hp hf hgood
 obtain ⟨q, HQ⟩ : ∃ q, Hid (q = 8 * n) := ⟨_, rfl⟩
 obtain ⟨m, HM⟩ : ∃ m, Hid (m = 8 + q) := ⟨_, rfl⟩
 rw [← HQ.out, ← HM.out] at HL hcap
 rw [← HQ.out, ← HM.out]
 go_enter_defers Tryz.func28, Tryz.ntmps28
 go_wp2_with (first | (go_at_call 41; refine HH.out.mono ?_))
 rintro e1 w1 ⟨rfl, hw1⟩
 have H1 : Hid (Ciph w1 g 6 nr K ∧ Touch w w1 g 4 1 ∧ w1.cell? ⟨g, 4, none⟩ = some (.int .i32 1)) := held HK.out hw1
 clear hw1 HH
 go_wp2_with (first | (go_at_call 55; refine (HL.out _).mono ?_))
 rintro e2 w2 ⟨rfl, rfl⟩
 have HW : Hid (Calls Tryz.prog 58 #[.pointer (some ⟨g, 6, none⟩), .slice (some ⟨b, po, none⟩) m cap] w2 fun e w' => e = .returned (.tuple #[.slice (some ⟨w2.heap.size, 0, none⟩) q q, .int .u64 12008468691120727718]) ∧ Halves w' w2.heap.size 0 n (aft (unStep nr K n) (6 * n) (un0 f)).2 ∧ Below w2.heap.size w2 w') := by
  rw [HM.out, HQ.out]
  obtain ⟨p1, p2, p3, p4, p5⟩ := HP.out
  have h := unwrap_ok g 6 nr n b po cap K f w2 H1.out.1 (by omega) (by omega) p5 (Nat.lt_of_lt_of_le p1 H1.out.2.1.size) (fun i hi => (H1.out.2.1.far p1 p2).trans (p3 i hi)) p4
  rw [HGD.out] at h
  exact h
 go_wp2_with (first | (go_at_call 58; refine HW.out.mono ?_))
 rintro e3 w3 ⟨rfl, hh3, hb3⟩
 have H3 : Hid (Halves w3 w2.heap.size 0 n (aft (unStep nr K n) (6 * n) (un0 f)).2 ∧ Touch w w3 g 4 1 ∧ w3.cell? ⟨g, 4, none⟩ = some (.int .i32 1)) :=
  ⟨hh3, H1.out.2.1.below hb3 HG.out, (hb3.cell H1.out.1.here).trans H1.out.2.2⟩
 clear hh3 hb3
 go_wp2_with fail
 refine leaves_cons (f := 42) (args := #[.pointer (some ⟨g, 0, none⟩)]) (by simp) (by simp [go_sem]) ?_
 refine (unlocked HK.out H3.out.2.1 H3.out.2.2).mono ?_
 rintro e5 u5 w5 ⟨rfl, rfl, hk5, ht5, hw5⟩
 have ht : Touch w3 w5 g 4 1 := by rw [hw5]; exact (Touch.refl w3 g 4 1).setCells 4 _ (by omega) (by simp)
 have hsz := H1.out.2.1.size
 have hgw := HG.out
 have hne : w2.heap.size ≠ g := by omega
 exact ⟨_, results_tmp2 rfl _ _ _, w2.heap.size, rfl, hsz, H3.out.1.far ht hne, hk5, ht5⟩
/-- What was wrapped, read as bytes: A, then the halves. -/
def wrB (x : Nat × (Nat → Nat)) : Nat → Nat := fun i => if i < 8 then byteK x.1 i else byteK (x.2 ((i - 8) / 8)) ((i - 8) % 8)
theorem wrB_lt (x : Nat × (Nat → Nat)) (i : Nat) : wrB x i < 256 := by unfold wrB; split <;> exact byteK_lt _ _
theorem un0_wrB {x : Nat × (Nat → Nat)} (h : Rok x) : un0 (wrB x) = x := by
 obtain ⟨a, R⟩ := x
 have e1 : numK (wrB (a, R)) 8 = a := by
  have : numK (wrB (a, R)) 8 = numK (byteK a) 8 := by simp [numK, wrB]
  rw [this]; exact numK_byteK a h.1
 have e2 : halfs (fun i => wrB (a, R) (8 + i)) = R := by
  funext i
  have h0 : ∀ k, k < 8 → wrB (a, R) (8 + (8 * i + k)) = byteK (R i) k := fun k hk => by
   have h1 : ¬ 8 + (8 * i + k) < 8 := by omega
   have h2 : (8 + (8 * i + k) - 8) / 8 = i := by omega
   have h3 : (8 + (8 * i + k) - 8) % 8 = k := by omega
   simp only [wrB, h1, if_false, h2, h3]
  have : numK (fun k => wrB (a, R) (8 + (8 * i + k))) 8 = numK (byteK (R i)) 8 := by
   simp only [numK, h0 0 (by decide), h0 1 (by decide), h0 2 (by decide), h0 3 (by decide), h0 4 (by decide), h0 5 (by decide), h0 6 (by decide), h0 7 (by decide)]
  show numK (fun k => wrB (a, R) (8 + (8 * i + k))) 8 = R i
  rw [this]
  exact numK_byteK _ (h.2 i)
 show (numK (wrB (a, R)) 8, halfs (fun i => wrB (a, R) (8 + i))) = (a, R)
 rw [e1, e2]
end Go.Proofs.YtgmfiljjogdccabGreatDoor
namespace Go.Proofs.YtgmfiljjogdccabGreatDoor
open Go.RowKit
set_option linter.unusedVariables false
theorem num_ok (x : Int) (w : World) : Calls Tryz.prog 6 #[.int .i64 x] w fun e w' => e = .returned (.int .i64 x) ∧ w' = w := by
 go_enter Tryz.func6, Tryz.ntmps6
 go_wp2
 go_ret
 exact ⟨rfl, rfl⟩
theorem wpList_load_want {P : Program} {ops : Array Oper} {rest : List Oper} {op : Oper} {a : Act} {w : World} {Q : Exit → Act → World → Prop} (hw : Region.wanted op (yielded ops a.tmps) = true) (ty : TypeId) (x : Operand) (ho : op.op = .load ty x)
  (b o : Nat) (hx : a.eval x = .pointer (some ⟨b, o, none⟩)) (cs : List Value) (d : TypeDesc) (hc : w.rangeAt b o cs) (hu : P.underlying ty = some d) (hd : d.isRow = true) (hi : (P.info? ty).map (·.size) = some cs.length)
  (h : wpList P ops Q rest (a.put op.dst (.agg cs.toArray)) w) : wpList P ops Q (op :: rest) a w :=
 wpList_step fun K hK => by
  rw [if_pos hw]
  exact wp_load_mid ty x ho b o hx cs d hc hu hd hi (hK _ _ h)
theorem RC.below {w w' : World} (h : RC w) (hb : Below w.heap.size w w') (h0 : 0 < w.heap.size) : RC w' := fun i hi => (hb.cell (p := ⟨0, i, none⟩) h0).trans (h i hi)
end Go.Proofs.YtgmfiljjogdccabGreatDoor
