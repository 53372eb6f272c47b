import Derived.Test.YtcnikfikpnnblaaGreatDoorPart36
import Derived.OwnWalk
import Derived.Laws.OwnMore
namespace Go.Proofs.YtcnikfikpnnblaaGreatDoor
open Go.RowKit
set_option linter.unusedVariables false
set_option linter.unusedSimpArgs false
/-- What lies above B stays. -/
theorem ShA.far {B : Nat} {w w' : World} {sh : Nat} {S : ByteArray} {st wd : Nat} {zs : List Int} {kv : Value} {mp : Option Addr} {ov : Value} (h : ShA B w sh S st wd zs kv mp ov) (hk : ∀ b, B ≤ b → b < w.heap.size → w'.heap[b]? = w.heap[b]?) (hs : w.heap.size ≤ w'.heap.size) : ShA B w' sh S st wd zs kv mp ov := by
  refine ⟨h.le, h.box.keep (hk _ h.le h.box.lt), ownsRow_keep h.key fun g q => ?_, h.main.keep (fun g e => ?_) hs, ?_⟩
  · exact hk g (ownsRow_lt h.key q).1 (ownsRow_lt h.key q).2
  · exact hk g (h.main.lt g e).2.1 (h.main.lt g e).1
  · obtain ⟨n, os, hn, ho⟩ := h.oth
    exact ⟨n, os, hn, ownsRow_keep ho fun g q => hk g (ownsRow_lt ho q).1 (ownsRow_lt ho q).2⟩
/-- What made answers: the program's cipher at c, whose shared part is at sh. -/
def MadeP (w : World) (S : ByteArray) (st wd : Nat) (zs : List Int) (Ψ : Nat → Value → Value → Value → Prop) (e : Ending) (w' : World) : Prop :=
  ∃ c r sh kv mp ov fv sv pv, e = .returned (.tuple #[.pointer (some ⟨c, 0, none⟩), .pointer (some ⟨r, 0, none⟩), .bool true]) ∧ w.heap.size ≤ c ∧ Bx w' c 97 [.pointer (some ⟨sh, 0, none⟩), fv, sv, pv] ∧ ShA w.heap.size w' sh S st wd zs kv mp ov ∧ Ψ sh fv sv pv ∧ Below w.heap.size w w'
set_option maxHeartbeats 3200000 in
set_option maxRecDepth 100000 in
/-- Pick.made. -/
theorem made_ok (nm : Int) (j : Nat) (v : Value) (bs : List Int) (w : World) (G o cp st wd : Nat) (Ψ : Nat → Value → Value → Value → Prop) (hD : MdAt w G o cp) (hj : j < 52) (hc : IntKind.u64.wrap nm % 52 = (j : Int)) (hv : View w v bs)
    (H21 : Hid (∀ u x, Below w.heap.size w u → View u x (kyL bs (kyN j)) → Calls Tryz.prog 21 #[.string (spN j), x] u fun e u' => NewP u (spN j) st wd (kyL bs (kyN j)) Ψ e u'))
    (H22 : Hid (∀ u x, Below w.heap.size w u → View u x (kyL bs (kyN j)) → Calls Tryz.prog 22 #[.string (spN j), x] u fun e u' => RnP u e u')) :
    Calls Tryz.prog 27 #[.agg #[.int .i64 nm, v]] w fun e w' => MadeP w (spN j) st wd (kyL bs (kyN j)) Ψ e w' := by
  obtain ⟨M, T, aa, hrow⟩ := rw_size j hj
  have hky : kyN j ≤ 1000 := by
    rcases sx_cases j hj with rfl | ⟨i, k, hi, hk, rfl⟩
    · decide
    · rw [kyN_lit i k hk]
      have : mK k * (16 + 8 * i) ≤ 2 * 32 := Nat.mul_le_mul (mK_le k) (by omega)
      have := mM_le k
      omega
  obtain ⟨zs, HZS⟩ : ∃ zs, Hid (kyL bs (kyN j) = zs) := ⟨_, rfl⟩
  obtain ⟨S, HSS⟩ : ∃ S, Hid (spN j = S) := ⟨_, rfl⟩
  have hlz : zs.length = kyN j := by rw [← HZS.out, kyL_len]
  obtain ⟨kz, HKZ⟩ : ∃ kz, Hid (kyN j = kz) := ⟨_, rfl⟩
  have H52 : Hid (∀ u, Below w.heap.size w u → Calls Tryz.prog 52 #[.agg #[.int .i64 nm, v]] u fun e u' => Hid (e = .returned (.agg #[.string S, .string M, .string T, .int .i64 aa, .int .i64 (kz : Nat)]) ∧ Below u.heap.size u u')) := fun u hu => by
    obtain ⟨va, vc, rfl, _⟩ := id hv
    have q := prow_ok nm j va bs.length vc u G o cp (hD.below hu) hj hc
    rw [hrow, HSS.out, HKZ.out] at q
    exact q
  have H35 : Hid (∀ u, Below w.heap.size w u → Calls Tryz.prog 35 #[.agg #[.int .i64 nm, v]] u fun e u' => Hid (∃ y d, e = .returned (.slice y kz d) ∧ View u' (.slice y kz d) zs ∧ Below u.heap.size u u')) := fun u hu => by
    have q := pkey_ok nm j v bs u G o cp (hD.below hu) hj hc (hv.below hu)
    rw [HZS.out, HKZ.out] at q
    exact q
  rw [HZS.out, HSS.out] at H21 H22 ⊢
  rw [HKZ.out] at hlz hky
  obtain ⟨va, vn, vc, rfl⟩ : ∃ a n c, v = .slice a n c := by obtain ⟨a, c, e, _⟩ := hv; exact ⟨_, _, _, e⟩
  have HLZ : Hid (zs.length = kz ∧ kz ≤ 1000) := ⟨hlz, hky⟩
  have hf0 := fun u => field0 S M T aa (kz : Nat) u
  clear hD hj hc hv hrow hky hlz
  obtain ⟨w1, hw1⟩ : ∃ w1, w1 = w.alloc (.cells #[.int .i64 nm, .slice va vn vc] 57) := ⟨_, rfl⟩
  have HB1 : Hid (Bx w1 w.heap.size 57 [.int .i64 nm, .slice va vn vc] ∧ Below w.heap.size w w1) := by rw [hw1]; exact ⟨Bx.new w 57 _, (Below.refl _ _).alloc (Nat.le_refl _) _⟩
  go_enter Tryz.func27, Tryz.ntmps27
  go_upto_region 1 with fail
  rw [← hw1]
  clear hw1
  obtain ⟨m, HM⟩ : ∃ m, Hid (w.heap.size = m) := ⟨_, rfl⟩
  rw [HM.out] at HB1 H52 H35 H21 H22 ⊢
  go_upto_region 2 with (first
    | (refine wpList_load_mid (by rfl) 57 (.tmp 1) (by rfl) m 0 (by rfl) [.int .i64 nm, .slice va vn vc] _ HB1.out.1.range Tryz.underlying57 rfl (by kernel_rfl) ?_)
    | (go_at_call 35; refine (H35.out _ HB1.out.2).mono ?_; intro e2 w2 hh; obtain ⟨y2, d2, rfl, hv2, hb⟩ := hh.out; have HB2 : Hid (Bx w2 m 57 [.int .i64 nm, .slice va vn vc] ∧ Below m w w2 ∧ View w2 (.slice y2 kz d2) zs) := ⟨HB1.out.1.below hb, HB1.out.2.trans (hb.mono (by have := HB1.out.1.lt; omega)), hv2⟩; clear hh hb hv2)
    | (go_at_call 20; refine (copy_any _ zs _ (by have := HLZ.out; omega) HB2.out.2.2).mono ?_; rintro e3 w3 ⟨v3, rfl, hm3, hb⟩; have HB3 : Hid (Bx w3 m 57 [.int .i64 nm, .slice va vn vc] ∧ Below m w w3 ∧ Marked w2.heap.size w3 v3 zs ∧ m < w2.heap.size) := ⟨HB2.out.1.below hb, HB2.out.2.1.trans (hb.mono (by have := HB2.out.1.lt; omega)), hm3, HB2.out.1.lt⟩; obtain ⟨xg, xc, rfl⟩ : ∃ g c, v3 = .slice (some ⟨g, 0, none⟩) zs.length c := (by obtain ⟨g, c, q, _⟩ := hm3; exact ⟨g, c, q⟩); clear hm3 hb))
  rw [HLZ.out.1] at HB3 ⊢
  go_upto_region 3 with (first
    | (refine wpList_load_mid (by rfl) 57 (.tmp 1) (by rfl) m 0 (by rfl) [.int .i64 nm, .slice va vn vc] _ HB3.out.1.range Tryz.underlying57 rfl (by kernel_rfl) ?_)
    | (go_at_call 52; refine (H52.out _ HB3.out.2.1).mono ?_; intro e4 w4 hh; obtain ⟨rfl, hb⟩ := hh.out; have HB4 : Hid (Bx w4 m 57 [.int .i64 nm, .slice va vn vc] ∧ Below m w w4 ∧ Marked w2.heap.size w4 (.slice (some ⟨xg, 0, none⟩) kz xc) zs) := ⟨HB3.out.1.below hb, HB3.out.2.1.trans (hb.mono (by have := HB3.out.1.lt; omega)), HB3.out.2.2.1.kept hb.block⟩; clear hh hb)
    | (go_at_call 21; refine (H21.out _ _ HB4.out.2.1 HB4.out.2.2.view).mono ?_; rintro e5 w5 ⟨c, sh, kv, mp, ov, fv, sv, pv, rfl, hc5, hx5, hs5, hp5, hb⟩; have HB5 : Hid (Bx w5 m 57 [.int .i64 nm, .slice va vn vc] ∧ Below m w w5 ∧ Marked w2.heap.size w5 (.slice (some ⟨xg, 0, none⟩) kz xc) zs) := ⟨HB4.out.1.below hb, HB4.out.2.1.trans (hb.mono (by have := HB4.out.1.lt; omega)), HB4.out.2.2.kept hb.block⟩; have HC5 : Hid (w4.heap.size ≤ c ∧ Bx w5 c 97 [.pointer (some ⟨sh, 0, none⟩), fv, sv, pv] ∧ ShA w4.heap.size w5 sh S st wd zs kv mp ov ∧ Ψ sh fv sv pv ∧ xg < w4.heap.size ∧ m < w4.heap.size) := ⟨hc5, hx5, hs5, hp5, (by obtain ⟨g, cc, q, ho⟩ := HB4.out.2.2; injection q with q1 q2 q3; injection q1 with q1; injection q1 with q1; subst q1; exact (ownsRow_lt ho rfl).2), HB4.out.1.lt⟩; clear hc5 hx5 hs5 hp5 hb))
  have s0 : w5.cell? ⟨m, 0, none⟩ = some (.int .i64 nm) := HB5.out.1.cell 0 _ rfl
  have s1 : w5.cell? ⟨m, 1, none⟩ = some (.slice va vn vc) := HB5.out.1.cell 1 _ rfl
  have K52 : Hid (Calls Tryz.prog 52 #[.agg #[.int .i64 nm, .slice va vn vc]] w5.drew fun e u' => Hid (e = .returned (.agg #[.string S, .string M, .string T, .int .i64 aa, .int .i64 (kz : Nat)]) ∧ Below w5.heap.size w5 u')) := (H52.out w5.drew HB5.out.2.1.drew).mono fun e u' hh => ⟨hh.out.1, (Below.refl _ _).drew.trans hh.out.2⟩
  go_region_held3 (fun u => u.cell? ⟨m, 0, none⟩ = some (.int .i64 nm) ∧ u.cell? ⟨m, 1, none⟩ = some (.slice va vn vc)) (first | exact ⟨s0, s1⟩ | exact hS6 | exact hS7 | exact hS8 | go_keep)
    (first
      | (go_at_call 52; refine K52.out.mono ?_; intro e6 w6 hh; obtain ⟨rfl, hb6⟩ := hh.out; have HB6 : Hid (Below w5.heap.size w5 w6) := hb6; have hX6 := HB5.out.1.below hb6; have hS6 : w6.cell? ⟨m, 0, none⟩ = some (.int .i64 nm) ∧ w6.cell? ⟨m, 1, none⟩ = some (.slice va vn vc) := ⟨hX6.cell 0 _ rfl, hX6.cell 1 _ rfl⟩; clear hh hb6 hX6)
      | (go_at_call 35; refine (H35.out w6 (HB5.out.2.1.trans (HB6.out.mono (by have := HB5.out.1.lt; omega)))).mono ?_; intro e7 w7 hh; obtain ⟨y7, d7, rfl, hv7, hb7⟩ := hh.out; have HB7 : Hid (Below w5.heap.size w5 w7 ∧ View w7 (.slice y7 kz d7) zs) := ⟨HB6.out.trans (hb7.mono HB6.out.size), hv7⟩; have hX7 := HB5.out.1.below HB7.out.1; have hS7 : w7.cell? ⟨m, 0, none⟩ = some (.int .i64 nm) ∧ w7.cell? ⟨m, 1, none⟩ = some (.slice va vn vc) := ⟨hX7.cell 0 _ rfl, hX7.cell 1 _ rfl⟩; clear hh hb7 hv7 hX7)
      | (go_at_call 22; refine (H22.out w7 _ (HB5.out.2.1.trans (HB7.out.1.mono (by have := HB5.out.1.lt; omega))) HB7.out.2).mono ?_; rintro e8 w8 ⟨rp, rfl, hb8⟩; have HB8 : Hid (Below w5.heap.size w5 w8) := HB7.out.1.trans (hb8.mono HB7.out.1.size); have hX8 := HB5.out.1.below HB8.out; have hS8 : w8.cell? ⟨m, 0, none⟩ = some (.int .i64 nm) ∧ w8.cell? ⟨m, 1, none⟩ = some (.slice va vn vc) := ⟨hX8.cell 0 _ rfl, hX8.cell 1 _ rfl⟩; clear hb8 hX8))
  have HB9 : Hid (Bx w8 m 57 [.int .i64 nm, .slice va vn vc] ∧ Below m w w8 ∧ Marked w2.heap.size w8 (.slice (some ⟨xg, 0, none⟩) kz xc) zs) := ⟨HB5.out.1.below HB8.out, HB5.out.2.1.trans (HB8.out.mono (by have := HB5.out.1.lt; omega)), HB5.out.2.2.kept HB8.out.block⟩
  have HC9 : Hid (w4.heap.size ≤ c ∧ Bx w8 c 97 [.pointer (some ⟨sh, 0, none⟩), fv, sv, pv] ∧ ShA w4.heap.size w8 sh S st wd zs kv mp ov ∧ Ψ sh fv sv pv ∧ xg < w4.heap.size ∧ m < w4.heap.size) := ⟨HC5.out.1, HC5.out.2.1.below HB8.out, HC5.out.2.2.1.below HB8.out, HC5.out.2.2.2⟩
  clear s0 s1 hS6 hS7 hS8 HB5 HC5 K52
  go_upto_region 7 with (first
    | (refine wpList_load_mid (by rfl) 57 (.tmp 1) (by rfl) m 0 (by rfl) [.int .i64 nm, .slice va vn vc] _ HB9.out.1.range Tryz.underlying57 rfl (by kernel_rfl) ?_)
    | (go_at_call 35; refine (H35.out _ HB9.out.2.1).mono ?_; intro e9 w9 hh; obtain ⟨y9, d9, rfl, hv9, hb⟩ := hh.out; have HB10 : Hid (Below w8.heap.size w8 w9 ∧ View w9 (.slice y9 kz d9) zs) := ⟨hb, hv9⟩; clear hh hb hv9)
    | (go_at_call 23; refine (whole_any _ _ zs w2.heap.size _ (HB9.out.2.2.kept HB10.out.1.block) HB10.out.2).mono ?_; rintro e10 w10 ⟨rfl, hw⟩; have HB11 : Hid (Below w8.heap.size w8 w10) := (by obtain ⟨q, rfl⟩ := hw; exact Below.drewN HB10.out.1 q); clear hw))
  have HI : Hid (∃ ys : List Int, ys.length = kz + 70 ∧ w10.ownsRow w2.heap.size 5 1 (.slice (some ⟨xg, 0, none⟩) (kz + 70) xc) (kz + 70) (cellsU8 ys)) := by
    obtain ⟨g, cc, q, ho⟩ := HB9.out.2.2.kept HB11.out.block
    injection q with q1 q2 q3
    injection q1 with q1
    injection q1 with q1
    subst q1 q3
    rw [HLZ.out.1] at ho
    exact ⟨zs ++ marks 70, by simp [marks, HLZ.out.1], ho⟩
  have HC10 : Hid (Bx w10 c 97 [.pointer (some ⟨sh, 0, none⟩), fv, sv, pv] ∧ ShA w4.heap.size w10 sh S st wd zs kv mp ov ∧ Below m w w10) := ⟨HC9.out.2.1.below HB11.out, HC9.out.2.2.1.below HB11.out, HB9.out.2.1.trans (HB11.out.mono (by have := HB9.out.1.lt; omega))⟩
  have HXG : Hid (m ≤ xg) := by
    obtain ⟨g, cc, q, ho⟩ := HB9.out.2.2
    injection q with q1 q2 q3
    injection q1 with q1
    injection q1 with q1
    subst q1
    exact Nat.le_trans (Nat.le_of_lt HB3.out.2.2.2) (ownsRow_lt ho rfl).1
  have hkz : kz ≤ 1000 := HLZ.out.2
  go_loopw [10] (fun vi wr => ∃ k : Nat, vi = .int .i64 (k : Nat) ∧ k ≤ kz ∧ Hid ((∃ ys : List Int, ys.length = kz + 70 ∧ wr.ownsRow w2.heap.size 5 1 (.slice (some ⟨xg, 0, none⟩) (kz + 70) xc) (kz + 70) (cellsU8 ys)) ∧ Bx wr c 97 [.pointer (some ⟨sh, 0, none⟩), fv, sv, pv] ∧ ShA w4.heap.size wr sh S st wd zs kv mp ov ∧ Below m w wr)) (fun vi _ => kz - (intOf vi).toNat)
  case atStart => exact ⟨0, rfl, by omega, HI.out, HC10.out⟩
  case round => as_aux_lemma =>
    obtain ⟨k, rfl, hk, HR⟩ := hrel
    clear HI HC10
    by_cases hlt : k < kz
    · obtain ⟨ys, hyl, hyo⟩ := HR.out.1
      obtain ⟨z, HZ⟩ : ∃ z, Hid (ys.getD k 0 = z) := ⟨_, rfl⟩
      have c0 : wr.cell? ⟨xg, k, none⟩ = some (.int .u8 z) := by
        have hk2 : k < ys.length := by omega
        have q := World.ownsRow.cells hyo (g := xg) rfl k (.int .u8 z) (by simp [cellsU8, List.getElem?_map, List.getElem?_eq_getElem hk2, ← HZ.out, List.getD, List.getElem?_eq_getElem hk2])
        rw [Addr.add_lit, Nat.zero_add] at q
        exact q
      have f0 : wr.frozen? ⟨xg, k, none⟩ = false := hyo.frozenAt k
      have g0 : (0 : Int) ≤ (k : Int) := by omega
      have g1 : (k : Int) < (kz : Int) := by omega
      have HST : Hid (∀ x : Int, (∃ ys : List Int, ys.length = kz + 70 ∧ (wr.setCell ⟨xg, k, none⟩ (.int .u8 x)).ownsRow w2.heap.size 5 1 (.slice (some ⟨xg, 0, none⟩) (kz + 70) xc) (kz + 70) (cellsU8 ys)) ∧ Bx (wr.setCell ⟨xg, k, none⟩ (.int .u8 x)) c 97 [.pointer (some ⟨sh, 0, none⟩), fv, sv, pv] ∧ ShA w4.heap.size (wr.setCell ⟨xg, k, none⟩ (.int .u8 x)) sh S st wd zs kv mp ov ∧ Below m w (wr.setCell ⟨xg, k, none⟩ (.int .u8 x))) := fun x => by
        obtain ⟨p1, p2⟩ := hyo.stored k (.int .u8 x)
        have hne : ∀ b, w4.heap.size ≤ b → (wr.setCell ⟨xg, k, none⟩ (.int .u8 x)).heap[b]? = wr.heap[b]? := fun b hb => Below.heap_setCell _ ⟨xg, k, none⟩ _ b (by show b ≠ xg; have := HC9.out.2.2.2.2.1; omega)
        refine ⟨⟨ys.set k x, by simp [hyl], ?_⟩, HR.out.2.1.keep (hne c HC9.out.1), HR.out.2.2.1.far (fun b hb _ => hne b hb) p2.size, HR.out.2.2.2.setCell HXG.out _⟩
        rw [show cellsU8 (ys.set k x) = (cellsU8 ys).set k (.int .u8 x) by simp [cellsU8, List.map_set]]
        exact p1
      clear hyo
      go_wp2
      exact ⟨⟨k + 1, by simp, by omega, HST.out _⟩, by simp [intOf]; omega⟩
    · have g1 : ¬ (k : Int) < (kz : Int) := by omega
      go_wp2_with (go_at_call 17; refine (num_ok _ _).mono ?_; rintro e13 x13 ⟨rfl, hw⟩; obtain rfl := hw.symm; clear hw)
      go_ret3
      refine ⟨c, rp, sh, kv, mp, ov, fv, sv, pv, rfl, ?_, HR.out.2.1, HR.out.2.2.1.base ?_, HC9.out.2.2.2.1, ?_⟩
      · have := HC9.out; have := HM.out; omega
      · have := HC9.out; have := HM.out; omega
      · first | exact HR.out.2.2.2 | (rw [HM.out]; exact HR.out.2.2.2)
end Go.Proofs.YtcnikfikpnnblaaGreatDoor
namespace Go.Proofs.YtcnikfikpnnblaaGreatDoor
open Go.RowKit
set_option linter.unusedVariables false
set_option linter.unusedSimpArgs false
theorem of_num (x : Int) (N k : Nat) (h0 : 0 ≤ x) (hN : x % 3000 = (N : Int)) (hk : 0 < k) (y : Nat) (hy : y ≤ 17) : N < 3000 ∧ x.tmod 3000 = (N : Int) ∧ (N : Int).tmod (k : Int) = ((N % k : Nat) : Int) ∧ (N : Int).tdiv (k : Int) = ((N / k : Nat) : Int) ∧ N / k < 3000 ∧ ((N / k : Nat) : Int).tmod 3 = ((N / k % 3 : Nat) : Int) ∧ N / k % 3 < 3 := by
 have h1 : N / k ≤ N := Nat.div_le_self _ _
 refine ⟨by omega, ?_, ?_, ?_, by omega, ?_, by omega⟩
 ·rw [Int.tmod_eq_emod_of_nonneg h0]; exact hN
 ·rw [Int.tmod_eq_emod_of_nonneg (Int.natCast_nonneg _)]; rfl
 ·rw [Int.tdiv_eq_ediv_of_nonneg (Int.natCast_nonneg _)]; rfl
 ·rw [Int.tmod_eq_emod_of_nonneg (Int.natCast_nonneg _)]; rfl
theorem of_wr (N r t y : Nat) (h1 : N < 3000) (h2 : r < 3000) (h3 : t < 3) (h4 : y ≤ 17) : IntKind.i64.wrap (N : Int) = (N : Int) ∧ wrap64 (N : Int) = (N : Int) ∧ IntKind.i64.wrap (r : Int) = (r : Int) ∧ wrap64 (r : Int) = (r : Int) ∧ IntKind.i64.wrap (17 * (t : Int)) = 17 * (t : Int) ∧ IntKind.i64.wrap ((y : Int) + 17 * (t : Int)) = (y : Int) + 17 * (t : Int) ∧ wrap64 (17 * (t : Int)) = 17 * (t : Int) ∧ wrap64 ((y : Int) + 17 * (t : Int)) = (y : Int) + 17 * (t : Int) := by
 refine ⟨?_, ?_, ?_, ?_, ?_, ?_, ?_, ?_⟩ <;> first | (rw [IntKind.wrap_i64]; omega) | (unfold wrap64; omega)
set_option maxHeartbeats 1600000 in
set_option maxRecDepth 100000 in
/-- Pick.of. -/
theorem of_ok (nm : Int) (a : Option Addr) (n c : Nat) (g k cp : Nat) (xs : Nat → Nat) (w : World) (N : Nat) (hN : IntKind.u64.wrap nm % 3000 = (N : Int)) (hk : 0 < k) (hk2 : k ≤ 100) (hx : ∀ i, i < k → w.cell? ⟨g, i, none⟩ = some (.int .i64 (xs i : Nat))) (hx2 : ∀ i, i < k → xs i ≤ 17) :
  Calls Tryz.prog 26 #[.agg #[.int .i64 nm, .slice a n c], .slice (some ⟨g, 0, none⟩) k cp] w fun e w' => Hid (e = .returned (.agg #[.int .i64 (xs (N % k) + 17 * (N / k % 3) : Nat), .slice a n c]) ∧ Below w.heap.size w w') := by
 obtain ⟨x, hxx⟩ : ∃ x, IntKind.u64.wrap nm = x := ⟨_, rfl⟩
 rw [hxx] at hN
 have hx0 : 0 ≤ x := by rw [← hxx]; unfold IntKind.wrap; simp [IntKind.signed, IntKind.bits]; omega
 obtain ⟨q, HQ⟩ : ∃ q : Nat, Hid (q = N % k) := ⟨_, rfl⟩
 obtain ⟨r, HR⟩ : ∃ r : Nat, Hid (r = N / k) := ⟨_, rfl⟩
 obtain ⟨t, HT⟩ : ∃ t : Nat, Hid (t = r % 3) := ⟨_, rfl⟩
 obtain ⟨y, HY⟩ : ∃ y : Nat, Hid (xs q = y) := ⟨_, rfl⟩
 have hqk : q < k := by rw [HQ.out]; exact Nat.mod_lt _ hk
 have hy17 : y ≤ 17 := by rw [← HY.out]; exact hx2 q hqk
 obtain ⟨hN2, htm, hmod, hquo, hr3, hmod3, ht3⟩ := of_num x N k hx0 hN hk y hy17
 rw [← HQ.out] at hmod
 rw [← HR.out] at hquo hr3 hmod3 ht3
 rw [← HT.out] at hmod3 ht3
 obtain ⟨eN, hwN, er, hwr, eq17, esum, wq17, wsum⟩ := of_wr N r t y hN2 hr3 ht3 hy17
 have hne : ((k : Int) == 0) = false := by simp; omega
 have hk0 : (k : Int) ≠ 0 := by omega
 have k0 : (0 : Int) ≤ (q : Int) := by omega
 have k1 : (q : Int) < (k : Int) := by omega
 have hkn : ¬ k = 0 := by omega
 have e3000 : IntKind.u64.wrap 3000 = 3000 := by decide
 clear hN hx0 hy17 ht3 hr3 hN2
 obtain ⟨w1, hw1⟩ : ∃ w1, w1 = (w.alloc (.cells #[.int .i64 nm, .slice a n c] 57)).alloc (.cells #[.int .i64 0, .slice none 0 0] 57) := ⟨_, rfl⟩
 have hb1 : Below w.heap.size w w1 := by rw [hw1]; exact ((Below.refl _ _).alloc (Nat.le_refl _) _).alloc (by simp) _
 have HB1 : Hid (Bx w1 w.heap.size 57 [.int .i64 nm, .slice a n c] ∧ Below w.heap.size w w1 ∧ Bx w1 (w.heap.size + 1) 57 [.int .i64 0, .slice none 0 0]) := by
  refine ⟨?_, hb1, ?_⟩
  ·rw [hw1]; exact (Bx.new w 57 [.int .i64 nm, .slice a n c]).below ((Below.refl _ _).alloc (Nat.le_refl _) _)
  ·rw [hw1]; have q := Bx.new (w.alloc (.cells #[.int .i64 nm, .slice a n c] 57)) 57 [.int .i64 0, .slice none 0 0]; simpa using q
 have c0 : w1.cell? ⟨g, q, none⟩ = some (.int .i64 (y : Nat)) := by
  have p := hx q hqk
  rw [hb1.cell (World.block_lt_of_cell? w _ p), p, HY.out]
 have hgm : g ≠ w.heap.size := by have := World.block_lt_of_cell? w _ (hx q hqk); intro e; rw [e] at this; exact absurd this (Nat.lt_irrefl _)
 clear hx hx2 hk hk2 hb1
 go_enter Tryz.func26, Tryz.ntmps26
 go_upto_region 1 with fail
 rw [← hw1]
 clear hw1
 obtain ⟨m, HM⟩ : ∃ m, Hid (w.heap.size = m) := ⟨_, rfl⟩
 rw [HM.out] at HB1 hgm ⊢
 have d0 : w1.cell? ⟨m, 0, none⟩ = some (.int .i64 nm) := HB1.out.1.cell 0 _ rfl
 have f0 : w1.frozen? ⟨m, 0, none⟩ = false := HB1.out.1.frozen 0
 go_upto_region 2 with fail
 have cset : Hid (∀ x : Int, (w1.setCell ⟨m, 0, none⟩ (.int .i64 x)).cell? ⟨g, q, none⟩ = some (.int .i64 (y : Nat))) := fun x => by rw [World.cell?_setCell_far _ _ _ _ (Ne.symm hgm)]; exact c0
 have fset : Hid (∀ x : Int, (w1.setCell ⟨m, 0, none⟩ (.int .i64 x)).frozen? ⟨m, 0, none⟩ = false) := fun x => by rw [World.frozen?_setCell]; exact f0
 go_region_held3 (fun u => u.cell? ⟨g, q, none⟩ = some (.int .i64 (y : Nat)) ∧ u.frozen? ⟨m, 0, none⟩ = false) (first | exact ⟨c0, f0⟩ | exact ⟨cset.out _, fset.out _⟩ | go_keep) (fail)
 obtain ⟨u2, hu2⟩ : ∃ u2, u2 = (w1.setCell ⟨m, 0, none⟩ (.int .i64 ((y : Int) + 17 * (t : Int)))).drew := ⟨_, rfl⟩
 have HX2 : Hid (Bx u2 m 57 [.int .i64 ((y : Int) + 17 * (t : Int)), .slice a n c] ∧ Bx u2 (m + 1) 57 [.int .i64 0, .slice none 0 0] ∧ Below m w u2) := by
  rw [hu2]
  refine ⟨(HB1.out.1.set 0 (.int .i64 ((y : Int) + 17 * (t : Int)))).below (Below.refl _ _).drew, ?_, ?_⟩
  ·refine Bx.below ?_ (Below.refl _ _).drew
   exact HB1.out.2.2.keep (Below.heap_setCell _ ⟨m, 0, none⟩ _ (m + 1) (by show m + 1 ≠ m; omega))
  ·exact (HB1.out.2.1.setCell (p := ⟨m, 0, none⟩) (Nat.le_refl _) _).drew
 rw [← hu2]
 clear hu2 cset fset f0 c0 d0 HB1
 go_wp2_with (first
  | (refine wpList_load_mid (by rfl) 57 (.tmp 2) (by rfl) m 0 (by rfl) [.int .i64 ((y : Int) + 17 * (t : Int)), .slice a n c] _ HX2.out.1.range Tryz.underlying57 rfl (by kernel_rfl) ?_)
  | (refine wpList_store_bx (by rfl) 57 (.tmp 4) (.tmp 26) (by rfl) [.int .i64 0, .slice none 0 0] [.int .i64 ((y : Int) + 17 * (t : Int)), .slice a n c] (m + 1) (by rfl) (by rfl) HX2.out.2.1 rfl (by kernel_rfl) (by simp [Value.oneCell']) ?_; intro u9 hb9 hg9))
 refine ret_agg (b := m + 1) [.int .i64 ((y : Int) + 17 * (t : Int)), .slice a n c] rfl rfl hb9.range Tryz.underlying57 rfl (by kernel_rfl) ⟨?_, ?_⟩
 ·rw [← HR.out, ← HT.out, ← HQ.out, HY.out]; simp
 ·have hfin : Below m w u9 := HX2.out.2.2.trans (below_gb hg9 (by have := HX2.out.2.1.lt; omega) (by omega))
  first | exact hfin | (rw [HM.out]; exact hfin)
end Go.Proofs.YtcnikfikpnnblaaGreatDoor
