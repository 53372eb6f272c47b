import Derived.Test.YtbpkocohddlbhaaDoorPart11
import Derived.Test.YtbpkocohddlbhaaDoorPart07
import Derived.Test.YtbpkocohddlbhaaDoorRows
import Derived.Test.YtbpkocohddlbhaaDoorPart04
import Derived.ProofKit
import Derived.OpenShut
import Derived.ShutString
import Derived.ChangeOld
import Derived.Below
import Derived.SizedLaws
import Derived.Lib.LaidTab
import Derived.Deep.DeepHandedRow
namespace Go.Proofs.YtbpkocohddlbhaaDoor
open Go.RowKit
set_option linter.unusedVariables false
set_option linter.unusedSimpArgs false
set_option maxRecDepth 100000
theorem one_str (T : ByteArray) : ∀ u ∈ [Value.string T], u.oneCell' = true := by intro u hu; simp at hu; subst hu; rfl
/-- Texts that are answered, with no error. -/
def TxQ (T : Nat → ByteArray) (n M : Nat) (e : Ending) (w w' : World) : Prop := ∃ g cg, e = .returned (.tuple #[.slice (some ⟨g, 0, none⟩) n cg, .int .i64 0]) ∧ (∀ i, i < n → w'.cell? ⟨g, i, none⟩ = some (.string (T i))) ∧ M ≤ g ∧ Below M w w'
set_option maxHeartbeats 3200000 in
/-- The reference's Deal, of what may be shared. -/
theorem rdeal_good (sn nd ct s b off c : Nat) (ra : Option Addr) (rn rc : Nat) (b0 b1 bn bs : F) (l R : List F) (w : World) (hs : Hid (b0.1 * 256 + b1.1 = sn)) (hl : Hid (l.length = s ∧ 1 ≤ s ∧ s ≤ 64)) (hnd : Hid (1 ≤ nd ∧ nd ≤ 16 ∧ nd ≤ ct ∧ ct ≤ 255)) (hbn : Hid (bn.1 = nd)) (hbs : Hid (bs.1 = s)) (hc : Hid (s ≤ c ∧ c ≤ maxLen)) (h : Hid (Rw w b off l))
    (hR : Hid (R.length = (nd - 1) * (s + 4) ∧ rn = R.length)) (hRw : Hid (∀ i, i < R.length → ∃ rb ro, ra = some ⟨rb, ro, none⟩ ∧ w.cell? ⟨rb, ro + i, none⟩ = some (.int .u8 ((R.getD i 0).1 : Nat)))) (hT : Hid (RTab w)) :
    Calls Tryd.prog 7 #[.int .u16 (sn : Nat), .slice (some ⟨b, off, none⟩) s c, .int .i64 (nd : Nat), .int .i64 (ct : Nat), .slice ra rn rc] w fun e w' => TxQ (lineT b0 b1 bn bs s R (rowS b0 b1 l) (s + 4) nd) ct w.heap.size e w w' := by
  obtain ⟨n, HNN⟩ : ∃ n : Nat, Hid (n = s + 4) := ⟨_, show _ = _ from rfl⟩
  obtain ⟨N, HNM⟩ : ∃ N : Nat, Hid (N = unc s + 4) := ⟨_, show _ = _ from rfl⟩
  obtain ⟨M, HMM⟩ : ∃ M, Hid (w.heap.size = M) := ⟨_, rfl⟩
  obtain ⟨ROW, HRO⟩ : ∃ q : List F, Hid (q = rowS b0 b1 l) := ⟨rowS b0 b1 l, show _ = _ from rfl⟩
  have HRL : Hid (ROW.length = n) := by show _ = _; rw [HRO.out, rowS_len, HNN.out, hl.out.1]
  have HSZ : Hid (n ≤ 68 ∧ 5 ≤ n ∧ R.length = (nd - 1) * n ∧ rn = R.length ∧ N ≤ 100 ∧ n = s + 4) := ⟨by have := HNN.out; have := hl.out; omega, by have := HNN.out; have := hl.out; omega, by rw [HNN.out]; exact hR.out.1, hR.out.2, by have h1 := hl.out; have h2 := HNM.out; unfold unc at h2; omega, HNN.out⟩
  have H17 : Hid (Calls Tryd.prog 17 #[.int .u16 (sn : Nat), .slice (some ⟨b, off, none⟩) s c] w fun e w' => Hid (∃ v, e = .returned v ∧ w'.ownsRow w.heap.size 5 1 v n (fc ROW) ∧ Below w.heap.size w w')) := by rw [HNN.out, HRO.out]; exact rrow_ok sn s b off c b0 b1 l w hs hl hc h hT
  obtain ⟨T, HTT⟩ : ∃ T : Nat → ByteArray, Hid (T = lineT b0 b1 bn bs s R ROW n nd) := ⟨_, show _ = _ from rfl⟩
  rw [← HRO.out, ← HNN.out, ← HTT.out]
  obtain ⟨i9, hi9, hz9, hs9, hb9⟩ := info_parts Tryd.infoT9
  have HI9 : Hid (Tryd.prog.info? 9 = some i9 ∧ i9.zero = some (.string ⟨#[]⟩) ∧ i9.size = 1 ∧ i9.bytes = 16) := ⟨hi9, hz9, hs9, hb9⟩
  obtain ⟨i0, hi, hz0, hz1, hz2⟩ := info_parts Tryd.infoB
  have HI0 : Hid (Tryd.prog.info? 5 = some i0 ∧ i0.zero = some (.int .u8 0) ∧ i0.size = 1 ∧ i0.bytes = 1) := ⟨hi, hz0, hz1, hz2⟩
  clear hi9 hz9 hs9 hb9 hi hz0 hz1 hz2
  have H16 : Hid (∀ u, Calls Tryd.prog 16 #[.int .i64 (s : Nat), .int .i64 (nd : Nat), .int .i64 (ct : Nat)] u fun e w' => e = .returned (.int .i64 0) ∧ w' = u) := fun u => by
    have q := may_ok (s : Int) (nd : Int) (ct : Int) u
    rw [may_zero s nd ct hl.out.2 hnd.out] at q
    exact q
  have H10 : Hid (∀ u, Calls Tryd.prog 10 #[.int .i64 (nd : Nat), .int .i64 (s : Nat)] u fun e w' => e = .returned (.int .i64 (rn : Nat)) ∧ w' = u) := fun u => by
    have q := rrandom_ok (nd : Int) (s : Int) u
    rw [rnd_eq s nd rn hl.out.2 ⟨hnd.out.1, hnd.out.2.1⟩ (hR.out.2.trans hR.out.1)] at q
    exact q
  have H18 : Hid (∀ u gl cl (L : List F) (x : Nat), L.length = nd → x < 256 → Rx u gl L → Calls Tryd.prog 18 #[.slice (some ⟨gl, 0, none⟩) nd cl, .int .i64 (x : Nat)] u fun e w' => Hid (e = .returned (.int .u8 ((valF L (fN x)).1 : Nat)) ∧ ∃ m, w' = u.drewN m)) := fun u gl cl L x h1 h2 h3 => value_ok gl 0 nd cl x L (fN x) u h1 (by have := hnd.out; omega) (fN_val x h2) h3.rw
  have H20 : Hid (∀ u (k x : Nat) g c, x = k + 1 → k < ct → Rx u g (vals R ROW n nd (fN x) n) → Calls Tryd.prog 20 #[.agg #[.int .u16 (sn : Nat), .int .i64 (nd : Nat), .int .i64 (x : Nat), .int .i64 (s : Nat)], .slice (some ⟨g, 0, none⟩) n c] u fun e w' => Hid (∃ g9 c9, e = .returned (.slice (some ⟨g9, 0, none⟩) N c9) ∧ (N ≤ c9 ∧ c9 ≤ 9223372036854775807) ∧ Rx w' g9 (fullL b0 b1 bn (fN (k + 1)) bs s (valsL R ROW n nd (fN (k + 1)))) ∧ Below u.heap.size u w')) := fun u k x g c hx hk hr => by
    subst hx
    have h255 := hnd.out
    refine rbytes_ok sn nd (k + 1) s n N g c b0 b1 bn (fN (k + 1)) bs (valsL R ROW n nd (fN (k + 1))) u hs (show _ ∧ _ ∧ _ from ⟨hbn.out, hnd.out.1, hnd.out.2.1⟩) (show _ ∧ _ from ⟨fN_val (k + 1) (by omega), by omega⟩) (show _ ∧ _ ∧ _ from ⟨hbs.out, hl.out.2⟩) (show _ ∧ _ ∧ _ from ⟨HNN.out, HNM.out, valsL_len _ _ _ _ _⟩) ?_
    rw [vals_all] at hr
    exact hr
  have H19 : Hid (∀ u k g9 c9, (N ≤ c9 ∧ c9 ≤ 9223372036854775807) → Rx u g9 (fullL b0 b1 bn (fN (k + 1)) bs s (valsL R ROW n nd (fN (k + 1)))) → Calls Tryd.prog 19 #[.slice (some ⟨g9, 0, none⟩) N c9] u fun e w' => Hid (e = .returned (.string (T k)) ∧ Below u.heap.size u w')) := fun u k g9 c9 hc9 hr => by
    rw [HTT.out]
    refine (rwordsF_ok g9 0 N c9 (fullL b0 b1 bn (fN (k + 1)) bs s (valsL R ROW n nd (fN (k + 1)))) u ?_ (by have := HSZ.out; omega) hc9.1 hc9.2 hr.rw).mono fun e w' hh => hh
    rw [full_len _ _ _ _ _ _ _ (by rw [valsL_len, HNN.out]), HNM.out]
  have HRW : Hid (∀ u, Below M w u → ∀ i, i < R.length → ∃ rb ro, ra = some ⟨rb, ro, none⟩ ∧ u.cell? ⟨rb, ro + i, none⟩ = some (.int .u8 ((R.getD i 0).1 : Nat))) := fun u hu i hi => by
    obtain ⟨rb, ro, e, hcell⟩ := hRw.out i hi
    exact ⟨rb, ro, e, (hu.cell (by rw [← HMM.out]; exact World.block_lt_of_cell? _ _ hcell)).trans hcell⟩
  rw [HMM.out] at H17 ⊢
  go_enter Tryd.func7, Tryd.ntmps7
  go_upto_region 7 with (first
    | (go_at_call 16; refine (H16.out _).mono ?_; rintro e1 w1 ⟨rfl, hw1⟩; obtain rfl := hw1.symm; clear hw1)
    | (go_at_call 10; refine (H10.out _).mono ?_; rintro e1 w1 ⟨rfl, hw1⟩; obtain rfl := hw1.symm; clear hw1)
    | (go_at_call 17; refine H17.out.mono ?_; intro e2 w2 h2; obtain ⟨v2, rfl, h3, h4⟩ := h2.out; have H2 : Hid (w2.ownsRow M 5 1 v2 n (fc ROW) ∧ Below M w w2) := ⟨h3, h4⟩; clear h2 h3 h4 H17)
    | fail)
  obtain ⟨rg, rcp, rfl, HG⟩ := own_rx (l := ROW) (by rw [HRL.out]; exact H2.out.1) (by rw [HRL.out]; have := HSZ.out; omega)
  rw [HRL.out]
  have HST : Hid (w2.ownsRow M 9 1 (.slice none 0 0) 0 (tcs T 0) ∧ Rx w2 rg ROW ∧ Below M w w2 ∧ M ≤ w2.heap.size) := ⟨World.ownsRow_nil _ _ _ _, HG.out.1, H2.out.2, bel_size H2.out.2 HMM.out⟩
  clear H2 HG
  go_wp2
  go_loopw [14, 15] (fun vo vx wr => ∃ k x : Nat, k ≤ ct ∧ vx = .int .i64 (x : Nat) ∧ Hid (x = k + 1) ∧ Hid (wr.ownsRow M 9 1 vo k (tcs T k) ∧ Rx wr rg ROW ∧ Below M w wr ∧ M ≤ wr.heap.size)) (fun _ vx _ => ct + 1 - (intOf vx).toNat)
  case atStart => exact ⟨0, 1, by omega, rfl, rfl, HST.out⟩
  case round =>
    clear HST
    obtain ⟨k, x, hk, rfl, HX, HI⟩ := hrel
    rename World => wo
    by_cases hlt : k < ct
    · have HLT : Hid (k < ct ∧ ct ≤ 255) := ⟨hlt, hnd.out.2.2.2⟩
      have g1 : (x : Int) ≤ (ct : Int) := by have := HX.out; omega
      obtain ⟨x1, HX1⟩ : ∃ q, Hid (q = x + 1) := ⟨x + 1, show _ = _ from rfl⟩
      have gx : IntKind.i64.wrap ((x : Int) + 1) = (x1 : Int) := by rw [IntKind.wrap_i64]; have := HX1.out; have := HX.out; have := HLT.out; omega
      obtain ⟨B2, HB2⟩ : ∃ q, Hid (wo.heap.size = q) := ⟨_, rfl⟩
      have HV0 : Hid (wo.ownsRow B2 5 1 (.slice none 0 0) 0 (fc (vals R ROW n nd (fN x) 0)) ∧ Below B2 wo wo) := ⟨World.ownsRow_nil _ _ _ _, Below.refl _ _⟩
      clear hlt hk
      go_wp2
      go_loopw [16, 17] (fun vv vi wr => ∃ i : Nat, i ≤ n ∧ vi = .int .i64 (i : Nat) ∧ Hid (wr.ownsRow B2 5 1 vv i (fc (vals R ROW n nd (fN x) i)) ∧ Below B2 wo wr)) (fun _ vi _ => n - (intOf vi).toNat)
      case atStart => exact ⟨0, by omega, rfl, HV0.out⟩
      case round =>
        clear HV0
        obtain ⟨i, hi, rfl, HV⟩ := hrel
        rename World => wi
        by_cases hil : i < n
        · have HIL : Hid (i < n) := hil
          obtain ⟨X0, HX0⟩ : ∃ X0 : F, Hid (ROW.getD i 0 = X0) := ⟨_, rfl⟩
          have HRWi : Hid (Rx wi rg ROW ∧ Below M w wi ∧ B2 ≤ wi.heap.size ∧ M ≤ B2) := by
            have hm : M ≤ B2 := by rw [← HB2.out]; exact HI.out.2.2.2
            exact ⟨HI.out.2.1.below (by rw [HB2.out]; exact HV.out.2), HI.out.2.2.1.trans (HV.out.2.mono hm), bel_size HV.out.2 HB2.out, hm⟩
          have c0 : wi.cell? ⟨rg, i, none⟩ = some (.int .u8 (X0.1 : Nat)) := by rw [← HX0.out]; exact HRWi.out.1.cell i (by rw [HRL.out]; exact hil)
          have g0 : (0 : Int) ≤ (i : Int) := by omega
          have gi : (i : Int) < (n : Int) := by omega
          have gi1 : IntKind.i64.wrap ((i : Int) + 1) = ((i + 1 : Nat) : Int) := by rw [IntKind.wrap_i64]; have := HSZ.out.1; omega
          clear hil hi
          go_upto_region 16 with fail
          obtain ⟨w3, hw3⟩ : ∃ u, u = wi.alloc (.cells #[.int .u8 (X0.1 : Nat)] 5) := ⟨_, rfl⟩
          obtain ⟨B3, HB3⟩ : ∃ q, Hid (wi.heap.size = q) := ⟨_, rfl⟩
          have HL0 : Hid (w3.ownsRow B3 5 1 (.slice (some ⟨B3, 0, none⟩) 1 1) 1 (fc (cfR R ROW n i 0)) ∧ Below B3 wi w3) := by
            refine ⟨?_, by rw [hw3, ← HB3.out]; exact (Below.refl _ _).alloc (Nat.le_refl _) _⟩
            rw [hw3, ← HB3.out]
            have q := World.ownsRow_lit wi #[.int .u8 (X0.1 : Nat)] 1 (Nat.le_refl _) (by decide) rfl (e := 5) (size := 1)
            rw [← HX0.out] at q ⊢
            exact q
          rw [← hw3, HB3.out]
          clear hw3
          go_wp2
          go_loopw [18, 19] (fun vl vj wr => ∃ k3 j : Nat, k3 + 1 ≤ nd ∧ vj = .int .i64 (j : Nat) ∧ Hid (j = k3 + 1) ∧ Hid (wr.ownsRow B3 5 1 vl j (fc (cfR R ROW n i k3)) ∧ Below B3 wi wr)) (fun _ vj _ => nd - (intOf vj).toNat)
          case atStart => exact ⟨0, 1, by have := hnd.out; omega, rfl, rfl, HL0.out⟩
          case round =>
            clear HL0
            obtain ⟨k3, j, hk3, rfl, HJ, HL⟩ := hrel
            rename World => wj
            by_cases hkl : k3 + 1 < nd
            · obtain ⟨kn, HKN⟩ : ∃ kn, Hid (kn = k3 * n) := ⟨k3 * n, show _ = _ from rfl⟩
              obtain ⟨jj, HJJ⟩ : ∃ jj, Hid (jj = kn + i) := ⟨kn + i, show _ = _ from rfl⟩
              obtain ⟨j1, HJ1⟩ : ∃ j1, Hid (j1 = j + 1) := ⟨j + 1, show _ = _ from rfl⟩
              have hin : jj < R.length := by
                rw [HSZ.out.2.2.1, HJJ.out, HKN.out]
                have h1 : (k3 + 1) * n ≤ (nd - 1) * n := Nat.mul_le_mul_right n (by omega)
                rw [Nat.succ_mul] at h1
                have := HIL.out
                omega
              have hlen : R.length ≤ 1020 := by
                rw [HSZ.out.2.2.1]
                have h1 : (nd - 1) * n ≤ 15 * 68 := Nat.mul_le_mul (by have := hnd.out; omega) HSZ.out.1
                omega
              have HBW : Hid (Below M w wj ∧ B3 ≤ wj.heap.size) := ⟨HRWi.out.2.1.trans (HL.out.2.mono (by have := HRWi.out; rw [← HB3.out]; omega)), bel_size HL.out.2 HB3.out⟩
              obtain ⟨rb, ro, rfl, hcell⟩ := HRW.out wj HBW.out.1 jj hin
              obtain ⟨Y, HY⟩ : ∃ Y : F, Hid (R.getD jj 0 = Y) := ⟨_, rfl⟩
              rw [HY.out] at hcell
              have HQ : Hid (j = k3 + 1 ∧ j1 = j + 1 ∧ j < nd ∧ nd ≤ 16 ∧ jj = kn + i ∧ jj < R.length ∧ R.length ≤ 1020 ∧ rn = R.length) := ⟨HJ.out, HJ1.out, by have := HJ.out; omega, hnd.out.2.1, HJJ.out, hin, hlen, HSZ.out.2.2.2.1⟩
              have HKM : Hid (((k3 : Nat) : Int) * ((n : Nat) : Int) = ((kn : Nat) : Int)) := by show _ = _; rw [HKN.out]; exact (Int.natCast_mul k3 n).symm
              have x3 : IntKind.i64.wrap ((j : Int) - 1) = (k3 : Int) := by rw [IntKind.wrap_i64]; have := HQ.out; omega
              have x4 : IntKind.i64.wrap ((k3 : Int) * (n : Int)) = (kn : Int) := by rw [HKM.out, IntKind.wrap_i64]; have := HQ.out; omega
              have x5 : IntKind.i64.wrap ((kn : Int) + (i : Int)) = (jj : Int) := by rw [IntKind.wrap_i64]; have := HQ.out; omega
              have x6 : IntKind.i64.wrap ((j : Int) + 1) = (j1 : Int) := by rw [IntKind.wrap_i64]; have := HQ.out; omega
              have y1 : (j : Int) < (nd : Int) := by have := HQ.out; omega
              have y2 : (0 : Int) ≤ (jj : Int) := by omega
              have y3 : (jj : Int) < (rn : Int) := by have := HQ.out; omega
              have HNX : Hid (fc (cfR R ROW n i k3) ++ [.int .u8 (Y.1 : Nat)] = fc (cfR R ROW n i (k3 + 1))) := by
                show _ = _
                rw [cfR_next, fc_append, ← HY.out, HJJ.out, HKN.out]
              clear hin hlen hkl hk3
              go_wp2_with (first
                | (at_builtin; go_must (refine wpList_append_own _ rfl (.tmp 59) (.tmp 70) 23 rfl B3 5 i0 (.int .u8 0) 1 1 Tryd.underlying23 HI0.out.1 HI0.out.2.1 HI0.out.2.2.1 HI0.out.2.2.2 rfl (by decide) _ j _ rfl (HL.out.1.alloc _) ⟨wj.heap.size, 0, none⟩ 1 1 [.int .u8 (Y.1 : Nat)] rfl rfl (one_cell wj _ 5) (one_u8 _) (by have := HQ.out; unfold maxLen; omega) (by have := HQ.out; omega) (by have := HBW.out.2; simp; omega) ?_; intro v4 w4 hown hgrow hnil; have H4 : Hid (w4.ownsRow B3 5 1 v4 j1 (fc (cfR R ROW n i (k3 + 1))) ∧ Below B3 wi w4) := ⟨by rw [← HNX.out, HJ1.out]; exact hown, (HL.out.2.alloc HBW.out.2 _).grown hgrow (by have := HBW.out.2; simp; omega) (fun q hq => (HL.out.1.lt q hq).1)⟩; clear hown hgrow hnil))
                | fail)
              go_roundw
              case rel => exact ⟨k3 + 1, j1, by have := HQ.out; omega, rfl, by rw [HJ1.out, HJ.out]; rfl, H4.out⟩
              case measure => simp [intOf]; have := HQ.out; omega
            · have hjn : j = nd := by have := HJ.out; omega
              have hk4 : k3 = nd - 1 := by omega
              have g9 : ¬ (j : Int) < (nd : Int) := by omega
              have HLEN : Hid ((cfR R ROW n i k3).length = nd ∧ 1 ≤ nd ∧ k3 = nd - 1) := ⟨by rw [cfR_len]; omega, hnd.out.1, hk4⟩
              obtain ⟨gl, cl, rfl, HGL⟩ := own_rx (l := cfR R ROW n i k3) (by rw [HLEN.out.1, ← hjn]; exact HL.out.1) (by rw [HLEN.out.1]; exact HLEN.out.2.1)
              rw [HLEN.out.1]
              have HVV : Hid (wj.ownsRow B2 5 1 u16 i (fc (vals R ROW n nd (fN x) i)) ∧ Below B2 wo wj ∧ B2 ≤ wj.heap.size) := by
                have hb : Below wi.heap.size wi wj := by rw [HB3.out]; exact HL.out.2
                exact ⟨own_below HV.out.1 hb, HV.out.2.trans (hb.mono HRWi.out.2.2.1), Nat.le_trans HRWi.out.2.2.1 hb.size⟩
              have HQ : Hid (x < 256) := by show _ < _; have := HX.out; have := HLT.out; omega
              clear HL hkl hk3 hk4
              go_wp2_with (first
                | (go_at_call 18; refine (H18.out wj gl cl (cfR R ROW n i k3) x HLEN.out.1 HQ.out HGL.out.1).mono ?_; intro e5 w5 h5; obtain ⟨rfl, m5, hw5⟩ := h5.out; rw [HLEN.out.2.2, cf_val R ROW n nd i (fN x) HLEN.out.2.1]; obtain ⟨Y, HY⟩ : ∃ Y : F, Hid (pv (fN x) (cfL R ROW n nd i) = Y) := ⟨_, rfl⟩; rw [HY.out]; have H5 : Hid (w5.ownsRow B2 5 1 u16 i (fc (vals R ROW n nd (fN x) i)) ∧ Below B2 wo w5 ∧ B2 ≤ w5.heap.size) := ⟨by rw [hw5]; exact own_below HVV.out.1 (below_drewN0 (Below.refl _ _) m5), by rw [hw5]; exact below_drewN0 HVV.out.2.1 m5, by rw [hw5]; exact HVV.out.2.2⟩; clear h5 hw5 HVV)
                | (at_builtin; go_must (refine wpList_append_own _ rfl (.tmp 72) (.tmp 76) 23 rfl B2 5 i0 (.int .u8 0) 1 1 Tryd.underlying23 HI0.out.1 HI0.out.2.1 HI0.out.2.2.1 HI0.out.2.2.2 rfl (by decide) _ i _ rfl (H5.out.1.alloc _) ⟨w5.heap.size, 0, none⟩ 1 1 [.int .u8 (Y.1 : Nat)] rfl rfl (one_cell w5 _ 5) (one_u8 _) (by have := HSZ.out; have := HIL.out; unfold maxLen; omega) (by have := HSZ.out; have := HIL.out; omega) (by have := H5.out.2.2; simp; omega) ?_; intro v6 w6 hown hgrow hnil; have H6 : Hid (w6.ownsRow B2 5 1 v6 (i + 1) (fc (vals R ROW n nd (fN x) (i + 1))) ∧ Below B2 wo w6) := ⟨by rw [vals_succ, fc_append, HY.out]; exact hown, (H5.out.2.1.alloc H5.out.2.2 _).grown hgrow (by have := H5.out.2.2; simp; omega) (fun q hq => (H5.out.1.lt q hq).1)⟩; clear hown hgrow hnil))
                | fail)
              go_roundw
              case rel => exact ⟨i + 1, by have := HIL.out; omega, rfl, H6.out⟩
              case measure => simp [intOf]; have := HIL.out; omega
        · have hin : i = n := by omega
          subst hin
          have gi : ¬ (i : Int) < (i : Int) := by omega
          obtain ⟨gv, cv, rfl, HGV⟩ := own_rx (l := vals R ROW i nd (fN x) i) (by rw [vals_len]; exact HV.out.1) (by rw [vals_len]; have := HSZ.out; omega)
          rw [vals_len]
          have HBO : Hid (Below wo.heap.size wo wi) := by rw [HB2.out]; exact HV.out.2
          have HWI : Hid (wi.ownsRow M 9 1 u14 k (tcs T k) ∧ Rx wi rg ROW ∧ Below M w wi ∧ M ≤ wi.heap.size) := ⟨own_below HI.out.1 HBO.out, HI.out.2.1.below HBO.out, HI.out.2.2.1.trans (HBO.out.mono HI.out.2.2.2), Nat.le_trans HI.out.2.2.2 HBO.out.size⟩
          clear HI HV hi hil HBO
          go_wp2_with (first
            | (go_at_call 20; refine (H20.out wi k x gv cv HX.out HLT.out.1 HGV.out.1).mono ?_; intro e7 w7 h7; obtain ⟨g7, c7, rfl, h8, h9, h10⟩ := h7.out; have H7 : Hid ((N ≤ c7 ∧ c7 ≤ 9223372036854775807) ∧ Rx w7 g7 (fullL b0 b1 bn (fN (k + 1)) bs s (valsL R ROW i nd (fN (k + 1)))) ∧ Below wi.heap.size wi w7) := ⟨h8, h9, h10⟩; clear h7 h8 h9 h10)
            | (go_at_call 19; refine (H19.out w7 k g7 c7 H7.out.1 H7.out.2.1).mono ?_; intro e8 w8 h8; obtain ⟨rfl, h9⟩ := h8.out; have H8 : Hid (w8.ownsRow M 9 1 u14 k (tcs T k) ∧ Rx w8 rg ROW ∧ Below M w w8 ∧ M ≤ w8.heap.size) := (by
                have hb : Below wi.heap.size wi w8 := H7.out.2.2.trans (h9.mono H7.out.2.2.size)
                exact ⟨own_below HWI.out.1 hb, HWI.out.2.1.below hb, HWI.out.2.2.1.trans (hb.mono HWI.out.2.2.2), Nat.le_trans HWI.out.2.2.2 hb.size⟩); clear h8 h9 H7 HWI)
            | (at_builtin; go_must (refine wpList_append_own _ rfl (.tmp 78) (.tmp 88) 29 rfl M 9 i9 (.string ⟨#[]⟩) 1 16 Tryd.underlying29 HI9.out.1 HI9.out.2.1 HI9.out.2.2.1 HI9.out.2.2.2 rfl (by decide) _ k _ rfl (H8.out.1.alloc _) ⟨w8.heap.size, 0, none⟩ 1 1 [.string (T k)] rfl rfl (one_cell w8 _ 9) (one_str _) (by have := HLT.out; unfold maxLen; omega) (by have := HLT.out; omega) (by have := H8.out.2.2.2; simp; omega) ?_; intro v9 w9 hown hgrow hnil; have H9 : Hid (w9.ownsRow M 9 1 v9 (k + 1) (tcs T (k + 1)) ∧ Rx w9 rg ROW ∧ Below M w w9 ∧ M ≤ w9.heap.size) := (by
                have ha : Below w8.heap.size w8 (w8.alloc (.cells #[.string (T k)] 9)) := (Below.refl _ _).alloc (Nat.le_refl _) _
                exact ⟨by rw [tcs_succ]; exact hown, rx_apart (H8.out.1.alloc _) hgrow (by decide) (H8.out.2.1.below ha), (H8.out.2.2.1.alloc H8.out.2.2.2 _).grown hgrow (by have := H8.out.2.2.2; simp; omega) (fun q hq => (H8.out.1.lt q hq).1), Nat.le_trans H8.out.2.2.2 (Nat.le_trans ha.size hgrow.size)⟩); clear hown hgrow hnil))
            | fail)
          go_roundw
          case rel => exact ⟨k + 1, x1, by have := HLT.out; omega, rfl, by rw [HX1.out, HX.out]; rfl, H9.out⟩
          case measure => simp [intOf]; have := HX1.out; have := HLT.out; have := HX.out; omega
    · have hkc : k = ct := by omega
      subst hkc
      have g1 : ¬ (x : Int) ≤ (k : Int) := by have := HX.out; omega
      have HF : Hid (∃ g cg, u14 = .slice (some ⟨g, 0, none⟩) k cg ∧ (∀ i, i < k → wo.cell? ⟨g, i, none⟩ = some (.string (T i))) ∧ M ≤ g) := by
        rcases HI.out.1.2 with ⟨_, e⟩ | ⟨g, cap, cur, e, hB, _⟩
        · have := hnd.out; omega
        · subst e
          refine ⟨g, cap, rfl, fun i hi => ?_, hB⟩
          have q := HI.out.1.cells (g := g) rfl i _ (tcs_at T k i hi)
          rw [Addr.add_lit, Nat.zero_add] at q
          exact q
      have HB : Hid (Below M w wo) := HI.out.2.2.1
      clear HI hk hlt
      obtain ⟨g, cg, rfl, h1, h2⟩ := HF.out
      have HR2 : Hid ((∀ i, i < k → wo.cell? ⟨g, i, none⟩ = some (.string (T i))) ∧ M ≤ g) := ⟨h1, h2⟩
      clear h1 h2 HF
      go_wp2
      go_ret2
      exact ⟨g, cg, rfl, HR2.out.1, HR2.out.2, HB.out⟩
end Go.Proofs.YtbpkocohddlbhaaDoor
namespace Go.Proofs.YtbpkocohddlbhaaDoor
open Go.RowKit
set_option linter.unusedVariables false
set_option linter.unusedSimpArgs false
set_option maxRecDepth 100000
/-- Bytes that are seen. -/
def Vf (w : World) (v : Value) (l : List F) : Prop := View w v (zi l)
theorem Vf.parts {w : World} {v : Value} {l : List F} (h : Vf w v l) : ∃ a c, v = .slice a l.length c ∧ l.length ≤ c ∧ c ≤ maxLen ∧ (a = none → c = 0) ∧ (l = [] ∨ ∃ b off, a = some ⟨b, off, none⟩ ∧ Rw w b off l) := by
  obtain ⟨a, c, e, h1, h2, h3, h4⟩ := h
  rw [zi_len] at e h1
  refine ⟨a, c, e, h1, h2, h3, ?_⟩
  rcases h4 with h4 | ⟨b, off, e2, h5⟩
  · left
    have q := congrArg List.length h4
    rw [zi_len] at q
    exact List.eq_nil_of_length_eq_zero q
  · refine .inr ⟨b, off, e2, fun i hi => ?_⟩
    rw [zi_len] at h5
    rw [h5 i hi, zi_getD l i hi]
theorem vf_mk {w : World} {a : Option Addr} {n c : Nat} {l : List F} (hn : n = l.length) (hc : n ≤ c) (hm : c ≤ maxLen) (h0 : a = none → c = 0) (h : l = [] ∨ ∃ b off, a = some ⟨b, off, none⟩ ∧ Rw w b off l) : Vf w (.slice a n c) l := by
  refine ⟨a, c, by rw [zi_len, hn], by rw [zi_len, ← hn]; exact hc, hm, h0, ?_⟩
  rcases h with h | ⟨b, off, e, h⟩
  · left; rw [h]; rfl
  · refine .inr ⟨b, off, e, fun i hi => ?_⟩
    rw [zi_len] at hi
    rw [zi_getD l i hi]
    exact h i hi
theorem Vf.below {w w' : World} {v : Value} {l : List F} (h : Vf w v l) (hb : Below w.heap.size w w') : Vf w' v l := View.kept h fun k hk => hb.block k hk
theorem rw_take {w : World} {b off : Nat} {l : List F} (h : Rw w b off l) (m : Nat) : Rw w b off (l.take m) := fun i hi => by
  rw [List.length_take] at hi
  rw [h i (by omega)]
  simp [List.getD_eq_getElem?_getD, List.getElem?_take, show i < m by omega]
theorem cut_le (a : Option Addr) (n c m : Nat) (h : n ≤ m) (w : World) : Calls Tryd.prog 4 #[.slice a n c, .int .i64 (m : Nat)] w fun e w' => e = .returned (.slice a n c) ∧ w' = w := by
  have h1 : ¬ (m : Int) < (n : Int) := by omega
  go_enter Tryd.func4, Tryd.ntmps4
  go_wp2
  go_ret
  exact ⟨rfl, rfl⟩
def CutQ (l : List F) (m : Nat) (e : Ending) (w w' : World) : Prop := ∃ v, e = .returned v ∧ Vf w v (l.take m) ∧ w' = w
theorem cut_any (v : Value) (l : List F) (m : Nat) (hm : m ≤ 3000) (w : World) (h : Vf w v l) : Calls Tryd.prog 4 #[v, .int .i64 (m : Nat)] w fun e w' => CutQ l m e w w' := by
  obtain ⟨a, c, rfl, h1, h2, h3, h4⟩ := h.parts
  by_cases hl : l.length ≤ m
  · refine (cut_le a l.length c m hl w).mono fun e w' hh => ⟨_, hh.1, ?_, hh.2⟩
    rw [List.take_of_length_le hl]
    exact h
  · rcases h4 with h4 | ⟨b, off, rfl, h5⟩
    · rw [h4] at hl; simp at hl
    · refine (cut_ok b off l.length c m hm h1 w).mono fun e w' hh => ⟨_, hh.1, ?_, hh.2⟩
      rw [Nat.min_eq_right (by omega)]
      exact vf_mk (by rw [List.length_take]; omega) (by omega) h2 (fun e => by cases e) (.inr ⟨b, off, rfl, rw_take h5 m⟩)
/-- Deal's refusals, and the reference's. -/
theorem deal_bad (sv : Value) (a ra : Option Addr) (s c rn rc : Nat) (nd ct : Int) (hb : Hid (mayN s nd ct ≠ 0)) (w : World) : Calls Tryd.prog 8 #[sv, .slice a s c, .int .i64 nd, .int .i64 ct, .slice ra rn rc] w fun e w' => e = .returned (.tuple #[.slice none 0 0, .int .i64 (mayN s nd ct)]) ∧ w' = w := by
  have H21 : Hid (∀ u, Calls Tryd.prog 21 #[.slice a s c, .int .i64 nd, .int .i64 ct] u fun e w' => e = .returned (.int .i64 (mayN s nd ct)) ∧ w' = u) := fun u => refusal_ok a s c nd ct u
  obtain ⟨z, HZ⟩ : ∃ z, Hid (mayN s nd ct = z) := ⟨_, rfl⟩
  rw [HZ.out] at H21 hb ⊢
  have g1 : (z != 0) = true := bne_iff_ne.2 hb.out
  go_enter Tryd.func8, Tryd.ntmps8
  go_wp2_with (go_at_call 21; refine (H21.out _).mono ?_; rintro e1 w1 ⟨rfl, hw1⟩; obtain rfl := hw1.symm; clear hw1)
  go_ret2
  exact ⟨rfl, rfl⟩
theorem deal_short (sv : Value) (a ra : Option Addr) (s c rn rc : Nat) (nd ct : Int) (hb : Hid (mayN s nd ct = 0 ∧ (rn : Int) ≠ rnd nd s)) (w : World) : Calls Tryd.prog 8 #[sv, .slice a s c, .int .i64 nd, .int .i64 ct, .slice ra rn rc] w fun e w' => e = .returned (.tuple #[.slice none 0 0, .int .i64 5]) ∧ w' = w := by
  have H21 : Hid (∀ u, Calls Tryd.prog 21 #[.slice a s c, .int .i64 nd, .int .i64 ct] u fun e w' => e = .returned (.int .i64 0) ∧ w' = u) := fun u => by
    have q := refusal_ok a s c nd ct u
    rw [hb.out.1] at q
    exact q
  obtain ⟨z, HZ⟩ : ∃ z, Hid (rnd nd s = z) := ⟨_, rfl⟩
  have H9 : Hid (∀ u, Calls Tryd.prog 9 #[.int .i64 nd, .int .i64 (s : Nat)] u fun e w' => e = .returned (.int .i64 z) ∧ w' = u) := fun u => by
    have q := random_ok nd (s : Int) u
    rw [HZ.out] at q
    exact q
  have g1 : ((rn : Int) != z) = true := bne_iff_ne.2 (by rw [← HZ.out]; exact hb.out.2)
  go_enter Tryd.func8, Tryd.ntmps8
  go_wp2_with (first
    | (go_at_call 21; refine (H21.out _).mono ?_; rintro e1 w1 ⟨rfl, hw1⟩; obtain rfl := hw1.symm; clear hw1)
    | (go_at_call 9; refine (H9.out _).mono ?_; rintro e1 w1 ⟨rfl, hw1⟩; obtain rfl := hw1.symm; clear hw1)
    | fail)
  go_ret2
  exact ⟨rfl, rfl⟩
theorem rdeal_bad (sv : Value) (a ra : Option Addr) (s c rn rc : Nat) (nd ct : Int) (hb : Hid (mayN s nd ct ≠ 0)) (w : World) : Calls Tryd.prog 7 #[sv, .slice a s c, .int .i64 nd, .int .i64 ct, .slice ra rn rc] w fun e w' => e = .returned (.tuple #[.slice none 0 0, .int .i64 (mayN s nd ct)]) ∧ w' = w := by
  have H21 : Hid (∀ u, Calls Tryd.prog 16 #[.int .i64 (s : Nat), .int .i64 nd, .int .i64 ct] u fun e w' => e = .returned (.int .i64 (mayN s nd ct)) ∧ w' = u) := fun u => may_ok s nd ct u
  obtain ⟨z, HZ⟩ : ∃ z, Hid (mayN s nd ct = z) := ⟨_, rfl⟩
  rw [HZ.out] at H21 hb ⊢
  have g1 : (z != 0) = true := bne_iff_ne.2 hb.out
  go_enter Tryd.func7, Tryd.ntmps7
  go_wp2_with (go_at_call 16; refine (H21.out _).mono ?_; rintro e1 w1 ⟨rfl, hw1⟩; obtain rfl := hw1.symm; clear hw1)
  go_ret2
  exact ⟨rfl, rfl⟩
theorem rdeal_short (sv : Value) (a ra : Option Addr) (s c rn rc : Nat) (nd ct : Int) (hb : Hid (mayN s nd ct = 0 ∧ (rn : Int) ≠ rnd nd s)) (w : World) : Calls Tryd.prog 7 #[sv, .slice a s c, .int .i64 nd, .int .i64 ct, .slice ra rn rc] w fun e w' => e = .returned (.tuple #[.slice none 0 0, .int .i64 5]) ∧ w' = w := by
  have H21 : Hid (∀ u, Calls Tryd.prog 16 #[.int .i64 (s : Nat), .int .i64 nd, .int .i64 ct] u fun e w' => e = .returned (.int .i64 0) ∧ w' = u) := fun u => by
    have q := may_ok s nd ct u
    rw [hb.out.1] at q
    exact q
  obtain ⟨z, HZ⟩ : ∃ z, Hid (rnd nd s = z) := ⟨_, rfl⟩
  have H9 : Hid (∀ u, Calls Tryd.prog 10 #[.int .i64 nd, .int .i64 (s : Nat)] u fun e w' => e = .returned (.int .i64 z) ∧ w' = u) := fun u => by
    have q := rrandom_ok nd (s : Int) u
    rw [HZ.out] at q
    exact q
  have g1 : ((rn : Int) != z) = true := bne_iff_ne.2 (by rw [← HZ.out]; exact hb.out.2)
  go_enter Tryd.func7, Tryd.ntmps7
  go_wp2_with (first
    | (go_at_call 16; refine (H21.out _).mono ?_; rintro e1 w1 ⟨rfl, hw1⟩; obtain rfl := hw1.symm; clear hw1)
    | (go_at_call 10; refine (H9.out _).mono ?_; rintro e1 w1 ⟨rfl, hw1⟩; obtain rfl := hw1.symm; clear hw1)
    | fail)
  go_ret2
  exact ⟨rfl, rfl⟩
end Go.Proofs.YtbpkocohddlbhaaDoor
namespace Go.Proofs.YtbpkocohddlbhaaDoor
open Go.RowKit
set_option linter.unusedVariables false
set_option linter.unusedSimpArgs false
set_option maxRecDepth 100000
/-- The law's random bytes. -/
def rndF (Rd : List F) (i : Nat) : F := if Rd.length = 0 then fN (i * i + 7) else fN ((Rd.getD (i % Rd.length) 0).1 + i / Rd.length)
def rndL (Rd : List F) (n : Nat) : List F := (List.range n).map (rndF Rd)
theorem rndL_succ (Rd : List F) (n : Nat) : rndL Rd (n + 1) = rndL Rd n ++ [rndF Rd n] := by simp [rndL, List.range_succ]
theorem rndL_len (Rd : List F) (n : Nat) : (rndL Rd n).length = n := by simp [rndL]
def rnd5 (own : Bool) (Rd : List F) (nd s : Int) : List F := if own then Rd.take 2000 else rndL Rd (rnd nd s).toNat
theorem rnd_few (nd s : Int) : ∃ N : Nat, rnd nd s = (N : Nat) ∧ N ≤ 1020 := by
  unfold rnd
  split
  · rename_i h
    have h1 : 0 ≤ (nd - 1) * (s + 4) := Int.mul_nonneg (by omega) (by omega)
    have h2 : (nd - 1) * (s + 4) ≤ 15 * 68 := Int.mul_le_mul (by omega) (by omega) (by omega) (by omega)
    exact ⟨((nd - 1) * (s + 4)).toNat, by omega, by omega⟩
  · exact ⟨0, rfl, by omega⟩
theorem rndF_none (Rd : List F) (i : Nat) (h : Rd.length = 0) (hi : i ≤ 1100) : IntKind.u8.wrap ((i * i + 7 : Nat) : Int) = ((rndF Rd i).1 : Nat) := by
  unfold rndF
  rw [if_pos h]
  unfold fN IntKind.wrap
  simp [IntKind.bits, IntKind.signed]
theorem rndF_some (Rd : List F) (i q d : Nat) (x : F) (h : Rd.length ≠ 0) (hq : q = i % Rd.length) (hd : d = i / Rd.length) (hx : Rd.getD q 0 = x) : IntKind.u8.wrap ((x.1 : Nat) + IntKind.u8.wrap (d : Int)) = ((rndF Rd i).1 : Nat) := by
  unfold rndF
  rw [if_neg h, ← hq, ← hd, hx]
  unfold fN IntKind.wrap
  simp [IntKind.bits, IntKind.signed]
def RnQ (L : List F) (M : Nat) (e : Ending) (w w' : World) : Prop := ∃ v, e = .returned v ∧ Vf w' v L ∧ Below M w w'
theorem rndN (nd s : Int) (own : Bool) (Rd : List F) : (rnd5 own Rd nd s).length ≤ 2000 := by
  obtain ⟨N, h, h1⟩ := rnd_few nd s
  unfold rnd5
  split
  · rw [List.length_take]; omega
  · rw [rndL_len, h]; omega
set_option maxHeartbeats 1600000 in
/-- The random bytes of a law. -/
theorem random5_ok (sn nd ct : Int) (own : Bool) (sa ra : Option Addr) (s sc rl rc : Nat) (Rd : List F) (w : World) (hl : Hid (rl = Rd.length)) (h : Vf w (.slice ra rl rc) Rd) :
    Calls Tryd.prog 5 #[.agg #[.int .u16 sn, .slice sa s sc, .int .i64 nd, .int .i64 ct, .bool own, .slice ra rl rc]] w fun e w' => RnQ (rnd5 own Rd nd s) w.heap.size e w w' := by
  obtain ⟨M, HMM⟩ : ∃ M, Hid (w.heap.size = M) := ⟨_, rfl⟩
  have HV : Hid (Vf w (.slice ra rl rc) Rd) := h
  obtain ⟨P, HP⟩ : ∃ P : List Value, Hid ([.int .u16 sn, .slice sa s sc, .int .i64 nd, .int .i64 ct, .bool own, .slice ra rl rc] = P) := ⟨_, rfl⟩
  obtain ⟨w1, hw1⟩ : ∃ u, u = w.alloc (.cells #[.int .u16 sn, .slice sa s sc, .int .i64 nd, .int .i64 ct, .bool own, .slice ra rl rc] 25) := ⟨_, rfl⟩
  have H1 : Hid (Bx w1 M 25 P ∧ Below M w w1 ∧ w1.heap.size = M + 1) := by
    rw [← HP.out, ← HMM.out, hw1]
    exact ⟨Bx.new w 25 _, (Below.refl _ _).alloc (Nat.le_refl _) _, by simp⟩
  have HC : Hid (∀ u, Below (M + 1) w1 u → u.cell? ⟨M, 1, none⟩ = some (.slice sa s sc) ∧ u.cell? ⟨M, 2, none⟩ = some (.int .i64 nd) ∧ u.cell? ⟨M, 4, none⟩ = some (.bool own) ∧ u.cell? ⟨M, 5, none⟩ = some (.slice ra rl rc)) := fun u hu => by
    have q : Bx u M 25 P := H1.out.1.keep (hu.block M (by omega))
    rw [← HP.out] at q
    exact ⟨q.cell 1 _ rfl, q.cell 2 _ rfl, q.cell 4 _ rfl, q.cell 5 _ rfl⟩
  obtain ⟨k1, k2, k4, k5⟩ := HC.out w1 (Below.refl _ _)
  obtain ⟨N, hN, hN2⟩ := rnd_few nd s
  have HN : Hid (rnd nd s = (N : Nat) ∧ N ≤ 1020) := ⟨hN, hN2⟩
  clear hN hN2
  cases own with
  | true =>
    have H4 : Hid (Calls Tryd.prog 4 #[.slice ra rl rc, .int .i64 2000] w1 fun e w' => CutQ Rd 2000 e w1 w') := cut_any (.slice ra rl rc) Rd 2000 (by omega) w1 (HV.out.below (by rw [HMM.out]; exact H1.out.2.1))
    rw [HMM.out]
    go_enter Tryd.func5, Tryd.ntmps5
    go_upto_region 1 with fail
    rw [← hw1, HMM.out]
    clear hw1
    go_wp2_with (go_at_call 4; refine H4.out.mono ?_; intro e2 w2 h2; obtain ⟨v2, rfl, h3, hw⟩ := h2; obtain rfl := hw.symm; have H2 : Hid (Vf w1 v2 (Rd.take 2000)) := h3; clear h3 hw)
    go_ret
    exact ⟨v2, rfl, H2.out, H1.out.2.1⟩
  | false =>
    have HRL : Hid (rnd5 false Rd nd s = rndL Rd N) := by
      show _ = _
      unfold rnd5
      rw [HN.out.1]
      rfl
    rw [HRL.out]
    have H10 : Hid (∀ u, Calls Tryd.prog 10 #[.int .i64 nd, .int .i64 (s : Nat)] u fun e w' => e = .returned (.int .i64 (N : Nat)) ∧ w' = u) := fun u => by
      have q := rrandom_ok nd (s : Int) u
      rw [HN.out.1] at q
      exact q
    obtain ⟨i0, hi, hz0, hz1, hz2⟩ := info_parts Tryd.infoB
    have HI0 : Hid (Tryd.prog.info? 5 = some i0 ∧ i0.zero = some (.int .u8 0) ∧ i0.size = 1 ∧ i0.bytes = 1) := ⟨hi, hz0, hz1, hz2⟩
    clear hi hz0 hz1 hz2
    rw [HMM.out]
    go_enter Tryd.func5, Tryd.ntmps5
    go_upto_region 1 with fail
    rw [← hw1, HMM.out]
    clear hw1
    go_upto_region 4 with (go_at_call 10; refine (H10.out _).mono ?_; rintro e2 w2 ⟨rfl, hw2⟩; obtain rfl := hw2.symm; clear hw2)
    have HST : Hid (w1.ownsRow (M + 1) 5 1 (.slice none 0 0) 0 (fc (rndL Rd 0)) ∧ Below (M + 1) w1 w1) := ⟨World.ownsRow_nil _ _ _ _, Below.refl _ _⟩
    clear k1 k2 k4 k5
    go_wp2
    go_loopw [4, 5] (fun vv vi wr => ∃ i : Nat, i ≤ N ∧ vi = .int .i64 (i : Nat) ∧ Hid (wr.ownsRow (M + 1) 5 1 vv i (fc (rndL Rd i)) ∧ Below (M + 1) w1 wr)) (fun _ vi _ => N - (intOf vi).toNat)
    case atStart => exact ⟨0, by omega, rfl, HST.out⟩
    case round =>
      clear HST
      obtain ⟨i, hi, rfl, HI⟩ := hrel
      rename World => wr
      by_cases hlt : i < N
      · obtain ⟨k1, k2, k4, k5⟩ := HC.out wr HI.out.2
        have HLT : Hid (i < N ∧ M + 1 ≤ wr.heap.size ∧ N ≤ 1020) := ⟨hlt, by rw [← H1.out.2.2]; exact HI.out.2.size, HN.out.2⟩
        have g1 : (i : Int) < (N : Int) := by omega
        have gi1 : IntKind.i64.wrap ((i : Int) + 1) = ((i + 1 : Nat) : Int) := by rw [IntKind.wrap_i64]; have := HN.out.2; omega
        clear hlt hi
        by_cases hz : Rd.length = 0
        · obtain rfl : rl = 0 := by have := hl.out; omega
          obtain ⟨ii, HII⟩ : ∃ ii : Nat, Hid (ii = i * i) := ⟨i * i, show _ = _ from rfl⟩
          have HIB : Hid (ii ≤ 1020 * 1020) := by show _ ≤ _; rw [HII.out]; exact Nat.mul_le_mul (by have := HLT.out; omega) (by have := HLT.out; omega)
          have x1 : IntKind.i64.wrap ((i : Int) * (i : Int)) = (ii : Int) := by rw [show ((i : Int) * (i : Int)) = (ii : Int) by rw [HII.out]; exact (Int.natCast_mul i i).symm, IntKind.wrap_i64]; have := HIB.out; omega
          obtain ⟨i7, HI7⟩ : ∃ i7 : Nat, Hid (i7 = ii + 7) := ⟨ii + 7, show _ = _ from rfl⟩
          have x2 : IntKind.i64.wrap ((ii : Int) + 7) = (i7 : Int) := by rw [IntKind.wrap_i64]; have := HIB.out; have := HI7.out; omega
          obtain ⟨Y, HY⟩ : ∃ Y : F, Hid (rndF Rd i = Y) := ⟨_, rfl⟩
          have x3 : IntKind.u8.wrap (i7 : Int) = ((Y.1 : Nat) : Int) := by rw [HI7.out, HII.out, rndF_none Rd i hz (by have := HLT.out; omega), HY.out]
          clear HIB
          go_wp2_with (first
            | (at_builtin; go_must (refine wpList_append_own _ rfl (.tmp 26) (.tmp 32) 23 rfl (M + 1) 5 i0 (.int .u8 0) 1 1 Tryd.underlying23 HI0.out.1 HI0.out.2.1 HI0.out.2.2.1 HI0.out.2.2.2 rfl (by decide) _ i _ rfl (HI.out.1.alloc _) ⟨wr.heap.size, 0, none⟩ 1 1 [.int .u8 (Y.1 : Nat)] rfl rfl (one_cell wr _ 5) (one_u8 _) (by have := HLT.out; unfold maxLen; omega) (by have := HLT.out; omega) (by have := HLT.out; simp; omega) ?_; intro v4 w4 hown hgrow hnil; have H4 : Hid (w4.ownsRow (M + 1) 5 1 v4 (i + 1) (fc (rndL Rd (i + 1))) ∧ Below (M + 1) w1 w4) := ⟨by rw [rndL_succ, fc_append, HY.out]; exact hown, (HI.out.2.alloc HLT.out.2.1 _).grown hgrow (by have := HLT.out; simp; omega) (fun q hq => (HI.out.1.lt q hq).1)⟩; clear hown hgrow hnil))
            | fail)
          go_roundw
          case rel => exact ⟨i + 1, by have := HLT.out; omega, rfl, H4.out⟩
          case measure => simp [intOf]; have := HLT.out; omega
        · obtain ⟨a', c', e', h1', h2', h3', h4'⟩ := HV.out.parts
          injection e' with e1 e2 e3
          subst e1 e3
          obtain ⟨rb, ro, rfl, hr⟩ : ∃ rb ro, ra = some ⟨rb, ro, none⟩ ∧ Rw w rb ro Rd := by
            rcases h4' with q | q
            · rw [q] at hz; exact absurd rfl hz
            · exact q
          clear h1' h2' h3' h4' e2
          obtain ⟨q, HQ⟩ : ∃ q : Nat, Hid (q = i % Rd.length) := ⟨i % Rd.length, show _ = _ from rfl⟩
          obtain ⟨d, HD⟩ : ∃ d : Nat, Hid (d = i / Rd.length) := ⟨i / Rd.length, show _ = _ from rfl⟩
          have hq : q < Rd.length := by rw [HQ.out]; exact Nat.mod_lt _ (by omega)
          obtain ⟨X, HX⟩ : ∃ X : F, Hid (Rd.getD q 0 = X) := ⟨_, rfl⟩
          have HCX : Hid (∀ u, Below wr.heap.size wr u → u.cell? ⟨rb, ro + q, none⟩ = some (.int .u8 (X.1 : Nat)) ∧ u.cell? ⟨M, 5, none⟩ = some (.slice (some ⟨rb, ro, none⟩) rl rc)) := fun u hu => by
            have hb : Below (M + 1) w1 u := HI.out.2.trans (hu.mono HLT.out.2.1)
            refine ⟨?_, (HC.out u hb).2.2.2⟩
            have hc := hr q hq
            rw [HX.out] at hc
            exact ((H1.out.2.1.trans (hb.mono (by omega))).cell (by rw [← HMM.out]; exact World.block_lt_of_cell? _ _ hc)).trans hc
          have x1 : ((i : Nat) : Int).tmod ((rl : Nat) : Int) = (q : Nat) := by rw [hl.out, HQ.out, Int.tmod_eq_emod_of_nonneg (by omega)]; exact (Int.natCast_emod _ _).symm ▸ rfl
          have x2 : ((i : Nat) : Int).tdiv ((rl : Nat) : Int) = (d : Nat) := by rw [hl.out, HD.out, Int.tdiv_eq_ediv_of_nonneg (by omega)]; exact (Int.natCast_ediv _ _).symm ▸ rfl
          have x00 : ¬ rl = 0 := by have := hl.out; omega
          have x0 : ¬ ((rl : Nat) : Int) = 0 := by have := hl.out; omega
          have hdi : d ≤ i := by rw [HD.out]; exact Nat.div_le_self _ _
          have x5 : IntKind.i64.wrap ((d : Nat) : Int) = (d : Int) := by rw [IntKind.wrap_i64]; have := HLT.out; omega
          have y1 : (0 : Int) ≤ (q : Int) := by omega
          have y2 : (q : Int) < (rl : Int) := by have := hl.out; omega
          obtain ⟨Y, HY⟩ : ∃ Y : F, Hid (rndF Rd i = Y) := ⟨_, rfl⟩
          obtain ⟨D8, HD8⟩ : ∃ z : Int, Hid (IntKind.u8.wrap ((d : Nat) : Int) = z) := ⟨_, rfl⟩
          have x3 : IntKind.u8.wrap ((d : Nat) : Int) = D8 := HD8.out
          have x4 : IntKind.u8.wrap (((X.1 : Nat) : Int) + D8) = ((Y.1 : Nat) : Int) := by rw [← HD8.out, rndF_some Rd i q d X hz HQ.out HD.out HX.out, HY.out]
          have z0 : (((rl : Nat) : Int) == 0) = false := by rw [beq_eq_false_iff_ne]; exact x0
          clear hdi hq hr
          go_upto_region 10 with fail
          have hS0 : Below wr.heap.size wr wr.drew := (Below.refl _ _).drew
          refine wp_region_noPanic ?_
          refine wp_region_till (fun u => Below wr.heap.size wr u) 18 (by kernel_rfl) (by decide) (by decide +kernel) (by decide +kernel) (by decide +kernel) (fun inv => ?_)
          refine till_at 0 34 (u4) inv rfl rfl (by decide) (by decide +kernel) (by decide +kernel) (fun _ _ _ h => h) hS0 (Or.inl ⟨by rfl, fun w' hS' => by obtain ⟨p1, p2⟩ := HCX.out _ hS'; go_simp⟩) (fun inv' => ?_)
          clear inv; have inv := inv'; clear inv'
          try simp only [List.setIfInBounds_toArray, List.set_cons_zero, List.set_cons_succ]
          refine till_at 1 35 (.pointer (some ⟨M, 5, none⟩)) inv rfl rfl (by decide) (by decide +kernel) (by decide +kernel) (fun _ _ _ h => h) hS0 (Or.inl ⟨by rfl, fun w' hS' => by obtain ⟨p1, p2⟩ := HCX.out _ hS'; go_simp⟩) (fun inv' => ?_)
          clear inv; have inv := inv'; clear inv'
          try simp only [List.setIfInBounds_toArray, List.set_cons_zero, List.set_cons_succ]
          refine till_at 2 36 (.slice (some ⟨rb, ro, none⟩) rl rc) inv rfl rfl (by decide) (by decide +kernel) (by decide +kernel) (fun _ _ _ h => h) hS0 (Or.inl ⟨by rfl, fun w' hS' => by obtain ⟨p1, p2⟩ := HCX.out _ hS'; go_simp⟩) (fun inv' => ?_)
          clear inv; have inv := inv'; clear inv'
          try simp only [List.setIfInBounds_toArray, List.set_cons_zero, List.set_cons_succ]
          refine till_at 3 37 (.int .i64 (i : Nat)) inv rfl rfl (by decide) (by decide +kernel) (by decide +kernel) (fun _ _ _ h => h) hS0 (Or.inl ⟨by rfl, fun w' hS' => by obtain ⟨p1, p2⟩ := HCX.out _ hS'; go_simp⟩) (fun inv' => ?_)
          clear inv; have inv := inv'; clear inv'
          try simp only [List.setIfInBounds_toArray, List.set_cons_zero, List.set_cons_succ]
          refine till_at 4 38 (.pointer (some ⟨M, 5, none⟩)) inv rfl rfl (by decide) (by decide +kernel) (by decide +kernel) (fun _ _ _ h => h) hS0 (Or.inl ⟨by rfl, fun w' hS' => by obtain ⟨p1, p2⟩ := HCX.out _ hS'; go_simp⟩) (fun inv' => ?_)
          clear inv; have inv := inv'; clear inv'
          try simp only [List.setIfInBounds_toArray, List.set_cons_zero, List.set_cons_succ]
          refine till_at 5 39 (.slice (some ⟨rb, ro, none⟩) rl rc) inv rfl rfl (by decide) (by decide +kernel) (by decide +kernel) (fun _ _ _ h => h) hS0 (Or.inl ⟨by rfl, fun w' hS' => by obtain ⟨p1, p2⟩ := HCX.out _ hS'; go_simp⟩) (fun inv' => ?_)
          clear inv; have inv := inv'; clear inv'
          try simp only [List.setIfInBounds_toArray, List.set_cons_zero, List.set_cons_succ]
          refine till_at 6 40 (.int .i64 (rl : Nat)) inv rfl rfl (by decide) (by decide +kernel) (by decide +kernel) (fun _ _ _ h => h) hS0 (Or.inl ⟨by rfl, fun w' hS' => by obtain ⟨p1, p2⟩ := HCX.out _ hS'; go_simp⟩) (fun inv' => ?_)
          clear inv; have inv := inv'; clear inv'
          try simp only [List.setIfInBounds_toArray, List.set_cons_zero, List.set_cons_succ]
          refine till_at 7 41 (.int .i64 (q : Nat)) inv rfl rfl (by decide) (by decide +kernel) (by decide +kernel) (fun _ _ _ h => h) hS0 (Or.inl ⟨by rfl, fun w' hS' => by obtain ⟨p1, p2⟩ := HCX.out _ hS'; go_simp⟩) (fun inv' => ?_)
          clear inv; have inv := inv'; clear inv'
          try simp only [List.setIfInBounds_toArray, List.set_cons_zero, List.set_cons_succ]
          refine till_at 8 42 (.pointer (some ⟨rb, ro + q, none⟩)) inv rfl rfl (by decide) (by decide +kernel) (by decide +kernel) (fun _ _ _ h => h) hS0 (Or.inl ⟨by rfl, fun w' hS' => by obtain ⟨p1, p2⟩ := HCX.out _ hS'; go_simp⟩) (fun inv' => ?_)
          clear inv; have inv := inv'; clear inv'
          try simp only [List.setIfInBounds_toArray, List.set_cons_zero, List.set_cons_succ]
          refine till_at 9 43 (.int .u8 (X.1 : Nat)) inv rfl rfl (by decide) (by decide +kernel) (by decide +kernel) (fun _ _ _ h => h) hS0 (Or.inl ⟨by rfl, fun w' hS' => by obtain ⟨p1, p2⟩ := HCX.out _ hS'; go_simp⟩) (fun inv' => ?_)
          clear inv; have inv := inv'; clear inv'
          try simp only [List.setIfInBounds_toArray, List.set_cons_zero, List.set_cons_succ]
          refine till_at 10 44 (.int .i64 (i : Nat)) inv rfl rfl (by decide) (by decide +kernel) (by decide +kernel) (fun _ _ _ h => h) hS0 (Or.inl ⟨by rfl, fun w' hS' => by obtain ⟨p1, p2⟩ := HCX.out _ hS'; go_simp⟩) (fun inv' => ?_)
          clear inv; have inv := inv'; clear inv'
          try simp only [List.setIfInBounds_toArray, List.set_cons_zero, List.set_cons_succ]
          refine till_at 11 45 (.pointer (some ⟨M, 5, none⟩)) inv rfl rfl (by decide) (by decide +kernel) (by decide +kernel) (fun _ _ _ h => h) hS0 (Or.inl ⟨by rfl, fun w' hS' => by obtain ⟨p1, p2⟩ := HCX.out _ hS'; go_simp⟩) (fun inv' => ?_)
          clear inv; have inv := inv'; clear inv'
          try simp only [List.setIfInBounds_toArray, List.set_cons_zero, List.set_cons_succ]
          refine till_at 12 46 (.slice (some ⟨rb, ro, none⟩) rl rc) inv rfl rfl (by decide) (by decide +kernel) (by decide +kernel) (fun _ _ _ h => h) hS0 (Or.inl ⟨by rfl, fun w' hS' => by obtain ⟨p1, p2⟩ := HCX.out _ hS'; go_simp⟩) (fun inv' => ?_)
          clear inv; have inv := inv'; clear inv'
          try simp only [List.setIfInBounds_toArray, List.set_cons_zero, List.set_cons_succ]
          refine till_at 13 47 (.int .i64 (rl : Nat)) inv rfl rfl (by decide) (by decide +kernel) (by decide +kernel) (fun _ _ _ h => h) hS0 (Or.inl ⟨by rfl, fun w' hS' => by obtain ⟨p1, p2⟩ := HCX.out _ hS'; go_simp⟩) (fun inv' => ?_)
          clear inv; have inv := inv'; clear inv'
          try simp only [List.setIfInBounds_toArray, List.set_cons_zero, List.set_cons_succ]
          refine till_at 14 48 (.int .i64 (d : Nat)) inv rfl rfl (by decide) (by decide +kernel) (by decide +kernel) (fun _ _ _ h => h) hS0 (Or.inl ⟨by rfl, fun w' hS' => by obtain ⟨p1, p2⟩ := HCX.out _ hS'; go_simp⟩) (fun inv' => ?_)
          clear inv; have inv := inv'; clear inv'
          try simp only [List.setIfInBounds_toArray, List.set_cons_zero, List.set_cons_succ]
          refine till_at 15 49 (.int .u8 D8) inv rfl rfl (by decide) (by decide +kernel) (by decide +kernel) (fun _ _ _ h => h) hS0 (Or.inl ⟨by rfl, fun w' hS' => by obtain ⟨p1, p2⟩ := HCX.out _ hS'; go_simp⟩) (fun inv' => ?_)
          clear inv; have inv := inv'; clear inv'
          try simp only [List.setIfInBounds_toArray, List.set_cons_zero, List.set_cons_succ]
          refine till_at 16 50 (.int .u8 (Y.1 : Nat)) inv rfl rfl (by decide) (by decide +kernel) (by decide +kernel) (fun _ _ _ h => h) hS0 (Or.inl ⟨by rfl, fun w' hS' => by obtain ⟨p1, p2⟩ := HCX.out _ hS'; go_simp⟩) (fun inv' => ?_)
          clear inv; have inv := inv'; clear inv'
          try simp only [List.setIfInBounds_toArray, List.set_cons_zero, List.set_cons_succ]
          refine till_head (i := 17) inv (by decide +kernel) (by decide) rfl (fun KK hK => ?_)
          go_simp
          obtain ⟨wa, hwa⟩ : ∃ u, u = (wr.alloc (.cells #[.int .u8 (Y.1 : Nat)] 5)).drew := ⟨_, rfl⟩
          have HSA : Hid (Below wr.heap.size wr wa ∧ ∀ (j : Nat) (u : Value), [Value.int .u8 (Y.1 : Nat)][j]? = some u → wa.cell? ((⟨wr.heap.size, 0, none⟩ : Addr).add j) = some u) := by
            rw [hwa]
            exact ⟨((Below.refl _ _).alloc (Nat.le_refl _) _).drew, one_cell wr _ 5⟩
          try rw [← hwa]
          clear hwa
          skip
          refine hK.out _ _ (HSA.out.1) (fun inv' => ?_)
          clear hK KK inv; have inv := inv'; clear inv'
          try simp only [List.setIfInBounds_toArray, List.set_cons_zero, List.set_cons_succ]
          refine till_tail (i := 18) (by decide +kernel) (by decide) rfl (fun KK hK => ?_)
          rw [if_pos (by rfl)]
          refine wp_append_own _ (.tmp 34) (.tmp 51) 23 rfl (M + 1) 5 i0 (.int .u8 0) 1 1 Tryd.underlying23 HI0.out.1 HI0.out.2.1 HI0.out.2.2.1 HI0.out.2.2.2 rfl (by decide) _ i _ rfl (own_below HI.out.1 HSA.out.1) ⟨wr.heap.size, 0, none⟩ 1 1 [.int .u8 (Y.1 : Nat)] rfl rfl HSA.out.2 (one_u8 _) (by have := HLT.out; unfold maxLen; omega) (by have := HLT.out; omega) (by have := HLT.out; have := HSA.out.1.size; omega) ?_
          intro v4 w4 hown hgrow hnil
          have H4 : Hid (w4.ownsRow (M + 1) 5 1 v4 (i + 1) (fc (rndL Rd (i + 1))) ∧ Below (M + 1) w1 w4) := ⟨by rw [rndL_succ, fc_append, HY.out]; exact hown, (HI.out.2.trans (HSA.out.1.mono HLT.out.2.1)).grown hgrow (by have := HLT.out; have := HSA.out.1.size; omega) (fun q hq => (HI.out.1.lt q hq).1)⟩
          clear hown hgrow hnil
          refine hK.out _ _ ?_
          clear hK KK
          try simp only [List.setIfInBounds_toArray, List.set_cons_zero, List.set_cons_succ]
          refine till_tail (i := 19) (by decide +kernel) (by decide) rfl (fun KK hK => ?_)
          rw [if_pos (by rfl)]
          go_simp
          refine hK.out _ _ ?_
          clear hK KK
          try simp only [List.setIfInBounds_toArray, List.set_cons_zero, List.set_cons_succ]
          refine till_done (by decide +kernel) ?_ _
          refine NoPanic.normal ?_
          go_wp2
          go_roundw
          case rel => exact ⟨i + 1, by have := HLT.out; omega, rfl, H4.out⟩
          case measure => simp [intOf]; have := HLT.out; omega
      · have hin : i = N := by omega
        subst hin
        have g1 : ¬ (i : Int) < (i : Int) := by omega
        have HF : Hid (Vf wr u4 (rndL Rd i) ∧ Below M w wr) := ⟨own_zi HI.out.1 (rndL_len _ _), H1.out.2.1.trans (HI.out.2.mono (by omega))⟩
        go_wp2
        go_ret
        exact ⟨_, rfl, HF.out.1, HF.out.2⟩
end Go.Proofs.YtbpkocohddlbhaaDoor
namespace Go.Proofs.YtbpkocohddlbhaaDoor
open Go.RowKit
set_option linter.unusedVariables false
set_option linter.unusedSimpArgs false
set_option maxRecDepth 100000
set_option maxHeartbeats 1600000 in
/-- SameTexts, which only reads. -/
theorem sameTextsQ (b1 b2 n c1 c2 : Nat) (T : Nat → ByteArray) (w : World) (hn : n ≤ 3000) (h1 : ∀ i, i < n → w.cell? ⟨b1, i, none⟩ = some (.string (T i))) (h2 : ∀ i, i < n → w.cell? ⟨b2, i, none⟩ = some (.string (T i))) :
    Calls Tryd.prog 12 #[.slice (some ⟨b1, 0, none⟩) n c1, .slice (some ⟨b2, 0, none⟩) n c2] w fun e w' => e = .returned (.bool true) ∧ ∃ m, w' = w.drewN m := by
  have HA : Hid ((∀ i, i < n → w.cell? ⟨b1, i, none⟩ = some (.string (T i))) ∧ ∀ i, i < n → w.cell? ⟨b2, i, none⟩ = some (.string (T i))) := ⟨h1, h2⟩
  clear h1 h2
  go_enter Tryd.func12, Tryd.ntmps12
  go_wp2
  go_loopw [5] (fun vi wr => ∃ i : Nat, vi = .int .i64 (i : Nat) ∧ i ≤ n ∧ Hid (∃ m, wr = w.drewN m)) (fun vi _ => n - (intOf vi).toNat)
  case atStart => exact ⟨0, rfl, by omega, 0, rfl⟩
  case round =>
    obtain ⟨i, rfl, hi, HR⟩ := hrel
    by_cases hlt : i < n
    · have g0 : (0 : Int) ≤ (i : Int) := by omega
      have g1 : (i : Int) < (n : Int) := by omega
      obtain ⟨NM, HNM⟩ : ∃ x, Hid (T i = x) := ⟨_, rfl⟩
      have c0 : wr.cell? ⟨b1, i, none⟩ = some (.string NM) := by
        obtain ⟨m, hm⟩ := HR.out
        rw [← HNM.out, hm]
        exact HA.out.1 i hlt
      have c1 : wr.cell? ⟨b2, i, none⟩ = some (.string NM) := by
        obtain ⟨m, hm⟩ := HR.out
        rw [← HNM.out, hm]
        exact HA.out.2 i hlt
      go_upto_region 6 with fail
      go_quiet (fail)
      have HR2 : Hid (∃ m, wr.drewN nq = w.drewN m) := by obtain ⟨m, hm⟩ := HR.out; exact ⟨_, by rw [hm]; exact World.drewN_drewN _ _ _⟩
      clear HR c0 c1
      generalize wr.drewN nq = wq at HR2 ⊢
      go_wp2
      exact ⟨⟨i + 1, by simp, by omega, HR2⟩, by simp [intOf]; omega⟩
    · have g1 : ¬ (i : Int) < (n : Int) := by omega
      go_wp2
      go_ret
      exact ⟨rfl, HR.out⟩
theorem sameTextsN (w : World) : Calls Tryd.prog 12 #[.slice none 0 0, .slice none 0 0] w fun e w' => e = .returned (.bool true) ∧ ∃ m, w' = w.drewN m := by
  go_enter Tryd.func12, Tryd.ntmps12
  go_wp2
  go_loop [5] (fun i => i = .int .i64 0) (fun _ => 0)
  case atStart => rfl
  case round =>
    subst hrel
    go_wp2
    go_ret
    exact ⟨rfl, 0, rfl⟩
set_option maxHeartbeats 1600000 in
/-- SpoilTexts of none. -/
theorem spoilTexts_nil (w : World) : Calls Tryd.prog 14 #[.slice none 0 0] w fun e w' => Hid (e = .returned (.tuple #[]) ∧ Below w.heap.size w w') := by
  obtain ⟨i0, hi0, hz0, hz1, hz2⟩ := info_parts Tryd.infoT9
  have HI0 : Hid (Tryd.prog.info? 9 = some i0 ∧ i0.zero = some (.string ⟨#[]⟩) ∧ i0.size = 1 ∧ i0.bytes = 16) := ⟨hi0, hz0, hz1, hz2⟩
  clear hi0 hz0 hz1 hz2
  obtain ⟨M, HMM⟩ : ∃ M, Hid (w.heap.size = M) := ⟨_, rfl⟩
  have HS : Hid ((∃ xs, w.ownsRow M 9 1 (.slice none 0 0) 0 xs) ∧ Below M w w) := ⟨⟨[], World.ownsRow_nil _ _ _ _⟩, Below.refl _ _⟩
  rw [HMM.out]
  go_enter Tryd.func14, Tryd.ntmps14
  go_wp2
  go_loop [2] (fun i => i = .int .i64 0) (fun _ => 0)
  case atStart => exact rfl
  case round =>
    obtain rfl := hrel
    go_wp2
    go_loopw [0, 3] (fun v vi wx => ∃ k : Nat, vi = .int .i64 (k : Nat) ∧ k ≤ 70 ∧ Hid ((∃ xs, wx.ownsRow M 9 1 v k xs) ∧ Below M w wx)) (fun _ vi _ => 70 - (intOf vi).toNat)
    case atStart => exact ⟨0, rfl, by omega, HS.out⟩
    case round =>
      clear HS
      obtain ⟨k, rfl, hk, HX⟩ := hrel
      obtain ⟨⟨xs, ho⟩, hb⟩ := HX.out
      have HO : Hid (wr.ownsRow M 9 1 u0 k xs ∧ Below M w wr ∧ M ≤ wr.heap.size) := ⟨ho, hb, bel_size hb HMM.out⟩
      clear ho hb HX
      by_cases hkl : k < 70
      · have k0 : (k : Int) < 70 := by omega
        have gk : IntKind.i64.wrap ((k : Int) + 1) = ((k + 1 : Nat) : Int) := by rw [IntKind.wrap_i64]; omega
        go_wp2_with (first
          | (at_builtin; go_must (refine wpList_append_own _ rfl (.tmp 17) (.tmp 18) 29 rfl M 9 i0 (.string ⟨#[]⟩) 1 16 Tryd.underlying29 HI0.out.1 HI0.out.2.1 HI0.out.2.2.1 HI0.out.2.2.2 rfl (by decide) _ k _ rfl (HO.out.1.alloc _) ⟨wr.heap.size, 0, none⟩ 1 1 [.string ⟨#[109, 111, 114, 101]⟩] rfl rfl (one_cell wr _ 9) (one_str _) (by unfold maxLen; omega) (by omega) (by have := HO.out.2.2; simp; omega) ?_; intro v4 w4 hown hgrow hnil; have H4 : Hid ((∃ xs, w4.ownsRow M 9 1 v4 (k + 1) xs) ∧ Below M w w4) := ⟨⟨_, hown⟩, (HO.out.2.1.alloc HO.out.2.2 _).grown hgrow (by have := HO.out.2.2; simp; omega) (fun q hq => (HO.out.1.lt q hq).1)⟩; clear hown hgrow hnil))
          | fail)
        go_roundw
        case rel => exact ⟨k + 1, rfl, by omega, H4.out⟩
        case measure => simp [intOf]; omega
      · obtain rfl : k = 70 := by omega
        obtain ⟨g, c, rfl, HC⟩ : ∃ g c, u0 = .slice (some ⟨g, 0, none⟩) 70 c ∧ Hid (M ≤ g ∧ (∃ x, wr.cell? ⟨g, 69, none⟩ = some (.string x) ∨ ∃ y, wr.cell? ⟨g, 69, none⟩ = some y) ∧ wr.frozen? ⟨g, 69, none⟩ = false) := by
          rcases HO.out.1.2 with ⟨_, e⟩ | ⟨g, cap, cur, rfl, hB, hh, h3, h4, h5, h6⟩
          · omega
          · refine ⟨g, cap, rfl, hB, ?_, ?_⟩
            · obtain ⟨⟨y, hy⟩, _⟩ := ownT_cell (i := 69) HO.out.1 (by omega)
              exact ⟨default, .inr ⟨y, hy⟩⟩
            · exact (ownT_cell (i := 69) HO.out.1 (by omega)).2.1
        obtain ⟨y, c1⟩ : ∃ y, wr.cell? ⟨g, 69, none⟩ = some y := by
          obtain ⟨x, q⟩ := HC.out.2.1
          rcases q with q | ⟨y, q⟩
          · exact ⟨_, q⟩
          · exact ⟨y, q⟩
        have f1 := HC.out.2.2
        have HB : Hid (Below M w (wr.setCell ⟨g, 69, none⟩ (.string ⟨#[109, 111, 115, 116]⟩))) := HO.out.2.1.setCell HC.out.1 _
        clear HO hkl hk
        go_wp2
        go_end0
        exact ⟨rfl, HB.out⟩
end Go.Proofs.YtbpkocohddlbhaaDoor
namespace Go.Proofs.YtbpkocohddlbhaaDoor
open Go.RowKit
set_option linter.unusedVariables false
set_option linter.unusedSimpArgs false
set_option maxRecDepth 100000
/-- What a sharing's call answers: the error's number, how many lines, which. -/
def dealE (s : Nat) (nd ct : Int) (r : Nat) : Int := if mayN s nd ct ≠ 0 then mayN s nd ct else if (r : Int) ≠ rnd nd s then 5 else 0
def dealC (s : Nat) (nd ct : Int) (r : Nat) : Nat := if dealE s nd ct r = 0 then ct.toNat else 0
def dealT (sn : Nat) (l R : List F) (nd : Nat) : Nat → ByteArray := lineT (fN (sn / 256)) (fN (sn % 256)) (fN nd) (fN l.length) l.length R (rowS (fN (sn / 256)) (fN (sn % 256)) l) (l.length + 4) nd
/-- Texts, of a list without spare room; of a list with some. -/
def TxA (w : World) (v : Value) (n : Nat) (T : Nat → ByteArray) (M : Nat) : Prop := (n = 0 ∧ v = .slice none 0 0) ∨ ∃ g, v = .slice (some ⟨g, 0, none⟩) n n ∧ M ≤ g ∧ Bx w g 9 (tcs T n)
def TxR (w : World) (v : Value) (n : Nat) (T : Nat → ByteArray) (M : Nat) : Prop := (n = 0 ∧ v = .slice none 0 0) ∨ ∃ g c, v = .slice (some ⟨g, 0, none⟩) n c ∧ M ≤ g ∧ g < w.heap.size ∧ ∀ i, i < n → w.cell? ⟨g, i, none⟩ = some (.string (T i))
def DaQ (er : Int) (n : Nat) (T : Nat → ByteArray) (M : Nat) (e : Ending) (w w' : World) : Prop := ∃ v, e = .returned (.tuple #[v, .int .i64 er]) ∧ TxA w' v n T M ∧ Below M w w'
def DrQ (er : Int) (n : Nat) (T : Nat → ByteArray) (M : Nat) (e : Ending) (w w' : World) : Prop := ∃ v, e = .returned (.tuple #[v, .int .i64 er]) ∧ TxR w' v n T M ∧ Below M w w'
theorem TxA.below {w w' : World} {v : Value} {n M : Nat} {T : Nat → ByteArray} (h : TxA w v n T M) (hb : Below w.heap.size w w') : TxA w' v n T M := by
  rcases h with h | ⟨g, e, h1, h2⟩
  · exact .inl h
  · exact .inr ⟨g, e, h1, h2.below hb⟩
theorem TxR.kept {w w' : World} {v : Value} {n M : Nat} {T : Nat → ByteArray} (h : TxR w v n T M) (hs : w.heap.size ≤ w'.heap.size) (hb : ∀ g, M ≤ g → g < w.heap.size → w'.heap[g]? = w.heap[g]?) : TxR w' v n T M := by
  rcases h with h | ⟨g, c, e, h1, h2, h3⟩
  · exact .inl h
  · exact .inr ⟨g, c, e, h1, by omega, fun i hi => by rw [World.cell?_of_block (w := w) (hb g h1 h2)]; exact h3 i hi⟩
theorem TxA.kept {w w' : World} {v : Value} {n M : Nat} {T : Nat → ByteArray} (h : TxA w v n T M) (hb : ∀ g, M ≤ g → g < w.heap.size → w'.heap[g]? = w.heap[g]?) : TxA w' v n T M := by
  rcases h with h | ⟨g, e, h1, h2⟩
  · exact .inl h
  · exact .inr ⟨g, e, h1, h2.keep (hb g h1 h2.lt)⟩
theorem sameTextsZ (a1 a2 : Option Addr) (c1 c2 : Nat) (w : World) : Calls Tryd.prog 12 #[.slice a1 0 c1, .slice a2 0 c2] w fun e w' => e = .returned (.bool true) ∧ ∃ m, w' = w.drewN m := by
  go_enter Tryd.func12, Tryd.ntmps12
  go_wp2
  go_loop [5] (fun i => i = .int .i64 0) (fun _ => 0)
  case atStart => rfl
  case round =>
    subst hrel
    go_wp2
    go_ret
    exact ⟨rfl, 0, rfl⟩
theorem same_ar {w : World} {a b : Value} {n M1 M2 : Nat} {T : Nat → ByteArray} (hn : n ≤ 3000) (ha : TxA w a n T M1) (hb : TxR w b n T M2) : Calls Tryd.prog 12 #[a, b] w fun e w' => e = .returned (.bool true) ∧ ∃ m, w' = w.drewN m := by
  rcases ha with ⟨h0, rfl⟩ | ⟨g, rfl, h1, h2⟩
  · rcases hb with ⟨_, rfl⟩ | ⟨g, c, rfl, _⟩
    · exact sameTextsN w
    · subst h0
      rename_i q
      exact sameTextsZ _ _ _ _ w
  · rcases hb with ⟨h0, rfl⟩ | ⟨g', c, rfl, _, _, h3⟩
    · subst h0
      exact sameTextsZ _ _ _ _ w
    · exact sameTextsQ g g' n n c T w hn (fun i hi => h2.cell i _ (tcs_at T n i hi)) h3
theorem spoil_tx {w : World} {a : Value} {n M : Nat} {T : Nat → ByteArray} (hn : n ≤ 3000) (ha : TxA w a n T M) (hM : M ≤ w.heap.size) : Calls Tryd.prog 14 #[a] w fun e w' => Hid (e = .returned (.tuple #[]) ∧ Below M w w' ∧ ∀ g, some g ≠ a.ownBlock → g < w.heap.size → w'.heap[g]? = w.heap[g]?) := by
  rcases ha with ⟨h0, rfl⟩ | ⟨g, rfl, h1, h2⟩
  · refine (spoilTexts_nil w).mono fun e w' hh => ?_
    obtain ⟨rfl, hb⟩ := hh.out
    exact ⟨rfl, hb.mono hM, fun g _ hg => hb.block g hg⟩
  · refine (spoilTexts_ok g n (tcs T n) w (tcs_len _ _) hn h2).mono fun e w' hh => ?_
    obtain ⟨rfl, hb⟩ := hh.out
    exact ⟨rfl, below_gb hb hM h1, fun k hk hg => hb.block k hg hk⟩
theorem may_cases (s : Nat) (nd ct : Int) (h : mayN s nd ct = 0) : 1 ≤ s ∧ s ≤ 64 ∧ 1 ≤ nd ∧ nd ≤ 16 ∧ nd ≤ ct ∧ ct ≤ 255 := by
  unfold mayN at h
  split at h
  · split at h
    · omega
    · omega
  · omega
theorem sn_parts (sn : Nat) (h : sn < 65536) : (fN (sn / 256)).1 * 256 + (fN (sn % 256)).1 = sn := by
  rw [fN_val _ (by omega), fN_val _ (by omega)]
  omega
theorem vf_rw {w : World} {a : Option Addr} {n c : Nat} {l : List F} (h : Vf w (.slice a n c) l) : n = l.length ∧ n ≤ c ∧ c ≤ maxLen ∧ (∀ i, i < l.length → ∃ rb ro, a = some ⟨rb, ro, none⟩ ∧ w.cell? ⟨rb, ro + i, none⟩ = some (.int .u8 ((l.getD i 0).1 : Nat))) ∧ (1 ≤ l.length → ∃ rb ro, a = some ⟨rb, ro, none⟩ ∧ Rw w rb ro l) := by
  obtain ⟨a', c', e, h1, h2, h3, h4⟩ := h.parts
  injection e with e1 e2 e3
  subst e1 e3 e2
  refine ⟨rfl, h1, h2, fun i hi => ?_, fun hl => ?_⟩
  · rcases h4 with h4 | ⟨b, off, e, h5⟩
    · rw [h4] at hi; simp at hi
    · exact ⟨b, off, e, h5 i hi⟩
  · rcases h4 with h4 | h4
    · rw [h4] at hl; simp at hl
    · exact h4
theorem deal_any (sn : Nat) (hsn : sn < 65536) (nd ct : Int) (sv rv : Value) (l R : List F) (w : World) (hT : Tables w) (h : Vf w sv l) (hr : Vf w rv R) : Calls Tryd.prog 8 #[.int .u16 (sn : Nat), sv, .int .i64 nd, .int .i64 ct, rv] w fun e w' => DaQ (dealE l.length nd ct R.length) (dealC l.length nd ct R.length) (dealT sn l R nd.toNat) w.heap.size e w w' := by
  obtain ⟨a, c, rfl, _⟩ := h.parts
  obtain ⟨ra, rc, rfl, _⟩ := hr.parts
  by_cases hm : mayN l.length nd ct = 0
  · obtain ⟨h1, h2, h3, h4, h5, h6⟩ := may_cases _ _ _ hm
    by_cases hq : (R.length : Int) = rnd nd l.length
    · have hE : dealE l.length nd ct R.length = 0 := by unfold dealE; rw [if_neg (by omega), if_neg (by omega)]
      have hC : dealC l.length nd ct R.length = ct.toNat := by unfold dealC; rw [if_pos hE]
      rw [hC, hE]
      obtain ⟨_, hc1, hc2, _, hb⟩ := vf_rw h
      obtain ⟨b, off, rfl, hrw⟩ := hb h1
      obtain ⟨_, _, _, hcell, _⟩ := vf_rw hr
      obtain ⟨ndN, rfl⟩ : ∃ k : Nat, nd = (k : Int) := ⟨nd.toNat, by omega⟩
      obtain ⟨ctN, rfl⟩ : ∃ k : Nat, ct = (k : Int) := ⟨ct.toNat, by omega⟩
      have hlen : R.length = (ndN - 1) * (l.length + 4) := by
        unfold rnd at hq
        rw [if_pos (by omega)] at hq
        rw [← Int.natCast_inj, hq, Int.natCast_mul]
        congr 1
        omega
      simp only [Int.toNat_natCast]
      refine (deal_good sn ndN ctN l.length b off c ra R.length rc (fN (sn / 256)) (fN (sn % 256)) (fN ndN) (fN l.length) l R w (sn_parts sn hsn) (show _ ∧ _ ∧ _ from ⟨rfl, h1, h2⟩) (show _ ∧ _ ∧ _ ∧ _ from ⟨by omega, by omega, by omega, by omega⟩) (fN_val _ (by omega)) (fN_val _ (by omega)) (show _ ∧ _ from ⟨hc1, hc2⟩) hrw (show _ ∧ _ from ⟨hlen, rfl⟩) hcell hT).mono fun e w' hh => ?_
      obtain ⟨g, rfl, q1, q2, q3⟩ := hh.out
      exact ⟨_, rfl, .inr ⟨g, rfl, q1, q2⟩, q3⟩
    · have hE : dealE l.length nd ct R.length = 5 := by unfold dealE; rw [if_neg (by omega), if_pos hq]
      have hC : dealC l.length nd ct R.length = 0 := by unfold dealC; rw [if_neg (by omega)]
      rw [hC, hE]
      refine (deal_short _ a ra _ c _ rc nd ct (show _ ∧ _ from ⟨hm, hq⟩) w).mono fun e w' hh => ?_
      obtain ⟨rfl, rfl⟩ := hh
      exact ⟨_, rfl, .inl ⟨rfl, rfl⟩, Below.refl _ _⟩
  · have hE : dealE l.length nd ct R.length = mayN l.length nd ct := by unfold dealE; rw [if_pos hm]
    have hC : dealC l.length nd ct R.length = 0 := by unfold dealC; rw [if_neg (by rw [hE]; exact hm)]
    rw [hC, hE]
    refine (deal_bad _ a ra _ c _ rc nd ct hm w).mono fun e w' hh => ?_
    obtain ⟨rfl, rfl⟩ := hh
    exact ⟨_, rfl, .inl ⟨rfl, rfl⟩, Below.refl _ _⟩
theorem rdeal_any (sn : Nat) (hsn : sn < 65536) (nd ct : Int) (sv rv : Value) (l R : List F) (w : World) (hT : RTab w) (h : Vf w sv l) (hr : Vf w rv R) : Calls Tryd.prog 7 #[.int .u16 (sn : Nat), sv, .int .i64 nd, .int .i64 ct, rv] w fun e w' => DrQ (dealE l.length nd ct R.length) (dealC l.length nd ct R.length) (dealT sn l R nd.toNat) w.heap.size e w w' := by
  obtain ⟨a, c, rfl, _⟩ := h.parts
  obtain ⟨ra, rc, rfl, _⟩ := hr.parts
  by_cases hm : mayN l.length nd ct = 0
  · obtain ⟨h1, h2, h3, h4, h5, h6⟩ := may_cases _ _ _ hm
    by_cases hq : (R.length : Int) = rnd nd l.length
    · have hE : dealE l.length nd ct R.length = 0 := by unfold dealE; rw [if_neg (by omega), if_neg (by omega)]
      have hC : dealC l.length nd ct R.length = ct.toNat := by unfold dealC; rw [if_pos hE]
      rw [hC, hE]
      obtain ⟨_, hc1, hc2, _, hb⟩ := vf_rw h
      obtain ⟨b, off, rfl, hrw⟩ := hb h1
      obtain ⟨_, _, _, hcell, _⟩ := vf_rw hr
      obtain ⟨ndN, rfl⟩ : ∃ k : Nat, nd = (k : Int) := ⟨nd.toNat, by omega⟩
      obtain ⟨ctN, rfl⟩ : ∃ k : Nat, ct = (k : Int) := ⟨ct.toNat, by omega⟩
      have hlen : R.length = (ndN - 1) * (l.length + 4) := by
        unfold rnd at hq
        rw [if_pos (by omega)] at hq
        rw [← Int.natCast_inj, hq, Int.natCast_mul]
        congr 1
        omega
      simp only [Int.toNat_natCast]
      refine (rdeal_good sn ndN ctN l.length b off c ra R.length rc (fN (sn / 256)) (fN (sn % 256)) (fN ndN) (fN l.length) l R w (sn_parts sn hsn) (show _ ∧ _ ∧ _ from ⟨rfl, h1, h2⟩) (show _ ∧ _ ∧ _ ∧ _ from ⟨by omega, by omega, by omega, by omega⟩) (fN_val _ (by omega)) (fN_val _ (by omega)) (show _ ∧ _ from ⟨hc1, hc2⟩) hrw (show _ ∧ _ from ⟨hlen, rfl⟩) hcell hT).mono fun e w' hh => ?_
      obtain ⟨g, cg, rfl, q1, q2, q3⟩ := hh
      exact ⟨_, rfl, .inr ⟨g, cg, rfl, q2, World.block_lt_of_cell? _ _ (q1 0 (by omega)), q1⟩, q3⟩
    · have hE : dealE l.length nd ct R.length = 5 := by unfold dealE; rw [if_neg (by omega), if_pos hq]
      have hC : dealC l.length nd ct R.length = 0 := by unfold dealC; rw [if_neg (by omega)]
      rw [hC, hE]
      refine (rdeal_short _ a ra _ c _ rc nd ct (show _ ∧ _ from ⟨hm, hq⟩) w).mono fun e w' hh => ?_
      obtain ⟨rfl, rfl⟩ := hh
      exact ⟨_, rfl, .inl ⟨rfl, rfl⟩, Below.refl _ _⟩
  · have hE : dealE l.length nd ct R.length = mayN l.length nd ct := by unfold dealE; rw [if_pos hm]
    have hC : dealC l.length nd ct R.length = 0 := by unfold dealC; rw [if_neg (by rw [hE]; exact hm)]
    rw [hC, hE]
    refine (rdeal_bad _ a ra _ c _ rc nd ct hm w).mono fun e w' hh => ?_
    obtain ⟨rfl, rfl⟩ := hh
    exact ⟨_, rfl, .inl ⟨rfl, rfl⟩, Below.refl _ _⟩
end Go.Proofs.YtbpkocohddlbhaaDoor
namespace Go.Proofs.YtbpkocohddlbhaaDoor
open Go.RowKit
set_option linter.unusedVariables false
set_option linter.unusedSimpArgs false
set_option maxRecDepth 100000
theorem TxA.own {w : World} {v : Value} {n M : Nat} {T : Nat → ByteArray} (h : TxA w v n T M) (g : Nat) (e : some g = v.ownBlock) : M ≤ g ∧ g < w.heap.size := by
  rcases h with ⟨_, rfl⟩ | ⟨g', rfl, h1, h2⟩
  · cases e
  · injection e with e
    subst e
    exact ⟨h1, h2.lt⟩
set_option maxHeartbeats 3200000 in
/-- The law Deals. -/
theorem deals_ok (sn : Nat) (hsn : Hid (sn < 65536)) (nd ct : Int) (own : Bool) (sa ra : Option Addr) (sl sc rl rc : Nat) (S Rd : List F) (w : World) (hT : Hid (Tables w ∧ RTab w)) (h : Hid (Vf w (.slice sa sl sc) S)) (hr : Hid (Vf w (.slice ra rl rc) Rd)) :
    Calls Tryd.prog 3 #[.agg #[.int .u16 (sn : Nat), .slice sa sl sc, .int .i64 nd, .int .i64 ct, .bool own, .slice ra rl rc]] w fun e w' => e = .returned (.bool true) ∧ Below w.heap.size w w' := by
  obtain ⟨M, HMM⟩ : ∃ M, Hid (w.heap.size = M) := ⟨_, rfl⟩
  obtain ⟨w1, hw1⟩ : ∃ u, u = w.alloc (.cells #[.int .u16 (sn : Nat), .slice sa sl sc, .int .i64 nd, .int .i64 ct, .bool own, .slice ra rl rc] 25) := ⟨_, rfl⟩
  have H1 : Hid (Bx w1 M 25 [.int .u16 (sn : Nat), .slice sa sl sc, .int .i64 nd, .int .i64 ct, .bool own, .slice ra rl rc] ∧ Below M w w1 ∧ w1.heap.size = M + 1) := by
    rw [← HMM.out, hw1]
    exact ⟨Bx.new w 25 _, (Below.refl _ _).alloc (Nat.le_refl _) _, by simp⟩
  have HT2 : Hid (∀ u, Below M w u → Tables u ∧ RTab u) := fun u hu => ⟨hT.out.1.below hu (by rw [← HMM.out]; exact hT.out.1.size), hT.out.2.below hu (by rw [← HMM.out]; exact hT.out.2.size)⟩
  have k1 := H1.out.1.cell 1 _ rfl
  have f1 := H1.out.1.frozen 1
  have H4 : Hid (Calls Tryd.prog 4 #[.slice sa sl sc, .int .i64 100] w1 fun e w' => CutQ S 100 e w1 w') := cut_any (.slice sa sl sc) S 100 (by omega) w1 (h.out.below (by rw [HMM.out]; exact H1.out.2.1))
  have H6 : Hid (∀ u v (l : List F), Vf u v l → l.length ≤ 3000 → Calls Tryd.prog 6 #[v] u fun e w' => Hid (∃ v', e = .returned v' ∧ Marked u.heap.size w' v' (zi l) ∧ Below u.heap.size u w')) := fun u v l hv hl => (copy_any v (zi l) u (by rw [zi_len]; omega) hv).mono fun e w' hh => hh
  rw [HMM.out]
  go_enter Tryd.func3, Tryd.ntmps3
  go_upto_region 1 with fail
  rw [← hw1, HMM.out]
  clear hw1
  obtain ⟨S2, HS2⟩ : ∃ q : List F, Hid (S.take 100 = q) := ⟨_, rfl⟩
  have HS3 : Hid (S2.length ≤ 100) := by show _ ≤ _; rw [← HS2.out, List.length_take]; omega
  go_upto_region 2 with (go_at_call 4; refine H4.out.mono ?_; intro e2 w2 h2; obtain ⟨v2, rfl, h3, hw⟩ := h2; obtain rfl := hw.symm; rw [HS2.out] at h3; obtain ⟨a2, c2, rfl, _⟩ := h3.parts; have HV2 : Hid (Vf w1 (.slice a2 S2.length c2) S2) := h3; clear h3 hw)
  have H2 : Hid (Bx (w1.setCell ⟨M, 1, none⟩ (.slice a2 S2.length c2)) M 25 [.int .u16 (sn : Nat), .slice a2 S2.length c2, .int .i64 nd, .int .i64 ct, .bool own, .slice ra rl rc] ∧ Below M w (w1.setCell ⟨M, 1, none⟩ (.slice a2 S2.length c2)) ∧ (w1.setCell ⟨M, 1, none⟩ (.slice a2 S2.length c2)).heap.size = M + 1) := by
    refine ⟨H1.out.1.set 1 _, H1.out.2.1.setCell (Nat.le_refl _) _, ?_⟩
    rw [← H1.out.2.2]
    simp [World.setCell]
  have HV3 : Hid (Vf (w1.setCell ⟨M, 1, none⟩ (.slice a2 S2.length c2)) (.slice a2 S2.length c2) S2) := by
    obtain ⟨a', c', e, q1, q2, q3, q4⟩ := HV2.out.parts
    injection e with e1 e2 e3
    subst e1 e3
    refine vf_mk rfl q1 q2 q3 ?_
    rcases q4 with q4 | ⟨b, off, e, q5⟩
    · exact .inl q4
    · refine .inr ⟨b, off, e, fun i hi => ?_⟩
      rw [World.cell?_setCell_other (h := fun e => ?_)]
      · exact q5 i hi
      · have q := q5 i hi
        rw [← e, k1] at q
        cases q
  generalize w1.setCell ⟨M, 1, none⟩ (.slice a2 S2.length c2) = w2 at H2 HV3 ⊢
  clear HV2 H4 k1 f1 H1
  have HRd : Hid (Vf w2 (.slice ra rl rc) Rd ∧ rl = Rd.length) := ⟨hr.out.below (by rw [HMM.out]; exact H2.out.2.1), (vf_rw hr.out).1⟩
  have hi25 : (Tryd.prog.info? 25).map (·.size) = some 6 := by kernel_rfl
  obtain ⟨R, HRR⟩ : ∃ q : List F, Hid (rnd5 own Rd nd (S2.length : Nat) = q) := ⟨_, rfl⟩
  have HRL : Hid (R.length ≤ 2000) := by show _ ≤ _; rw [← HRR.out]; exact rndN _ _ _ _
  have H5 : Hid (Calls Tryd.prog 5 #[.agg #[.int .u16 (sn : Nat), .slice a2 S2.length c2, .int .i64 nd, .int .i64 ct, .bool own, .slice ra rl rc]] w2 fun e w' => RnQ R w2.heap.size e w2 w') := by
    rw [← HRR.out]
    exact random5_ok (sn : Int) nd ct own a2 ra S2.length c2 rl rc Rd w2 HRd.out.2 HRd.out.1
  have HC : Hid (∀ u, Below (M + 1) w2 u → u.cell? ⟨M, 0, none⟩ = some (.int .u16 (sn : Nat)) ∧ u.cell? ⟨M, 1, none⟩ = some (.slice a2 S2.length c2) ∧ u.cell? ⟨M, 2, none⟩ = some (.int .i64 nd) ∧ u.cell? ⟨M, 3, none⟩ = some (.int .i64 ct)) := fun u hu => by
    have q : Bx u M 25 _ := H2.out.1.keep (hu.block M (by omega))
    exact ⟨q.cell 0 _ rfl, q.cell 1 _ rfl, q.cell 2 _ rfl, q.cell 3 _ rfl⟩
  have HRG := H2.out.1.range
  go_upto_region 3 with (first
    | (refine wpList_load_mid (by rfl) 25 (.tmp 1) (by rfl) M 0 (by rfl) [.int .u16 (sn : Nat), .slice a2 S2.length c2, .int .i64 nd, .int .i64 ct, .bool own, .slice ra rl rc] _ HRG Tryd.underlying25 rfl hi25 ?_)
    | (go_at_call 5; refine H5.out.mono ?_; intro e3 w3 h3; obtain ⟨v3, rfl, h4, h5⟩ := h3; have H3 : Hid (Vf w3 v3 R ∧ Below (M + 1) w2 w3) := ⟨h4, by rw [← H2.out.2.2]; exact h5⟩; clear h4 h5 H5)
    | fail)
  clear HRG
  obtain ⟨k0, k1, k2, k3⟩ := HC.out w3 H3.out.2
  go_upto_region 4 with (go_at_call 6; refine (H6.out w3 (.slice a2 S2.length c2) S2 (HV3.out.below (by rw [H2.out.2.2]; exact H3.out.2)) (by have := HS3.out; omega)).mono ?_; intro e4 w4 h4; obtain ⟨v4, rfl, h5, h6⟩ := h4.out; have H4 : Hid (Marked w3.heap.size w4 v4 (zi S2) ∧ Below w3.heap.size w3 w4) := ⟨h5, h6⟩; clear h4 h5 h6)
  clear k0 k1 k2 k3
  go_upto_region 5 with (go_at_call 6; refine (H6.out w4 v3 R (H3.out.1.below H4.out.2) (by have := HRL.out; omega)).mono ?_; intro e5 w5 h5; obtain ⟨v5, rfl, h6, h7⟩ := h5.out; have H5 : Hid (Marked w4.heap.size w5 v5 (zi R) ∧ Below w4.heap.size w4 w5) := ⟨h6, h7⟩; clear h5 h6 h7)
  have HB3 : Hid (M + 1 ≤ w3.heap.size ∧ w3.heap.size ≤ w4.heap.size ∧ w4.heap.size ≤ w5.heap.size) := ⟨by rw [← H2.out.2.2]; exact H3.out.2.size, H4.out.2.size, H5.out.2.size⟩
  have HB5 : Hid (Below (M + 1) w2 w5) := H3.out.2.trans ((H4.out.2.mono HB3.out.1).trans (H5.out.2.mono (by have := HB3.out; omega)))
  have HV5 : Hid (Vf w5 (.slice a2 S2.length c2) S2 ∧ Vf w5 v3 R ∧ Vf w5 v4 S2 ∧ Vf w5 v5 R) := ⟨HV3.out.below (by rw [H2.out.2.2]; exact HB5.out), (H3.out.1.below H4.out.2).below H5.out.2, View.kept H4.out.1.view (fun k hk => H5.out.2.block k hk), H5.out.1.view⟩
  have HM5 : Hid (Marked w3.heap.size w5 v4 (zi S2) ∧ Marked w4.heap.size w5 v5 (zi R)) := ⟨H4.out.1.kept (fun k hk => H5.out.2.block k hk), H5.out.1⟩
  clear H3 H4 H5 H6 HV3
  obtain ⟨er, HER⟩ : ∃ q, Hid (dealE S2.length nd ct R.length = q) := ⟨_, rfl⟩
  obtain ⟨N, HN⟩ : ∃ q, Hid (dealC S2.length nd ct R.length = q) := ⟨_, rfl⟩
  obtain ⟨T, HT⟩ : ∃ q, Hid (dealT sn S2 R nd.toNat = q) := ⟨_, rfl⟩
  have HN3 : Hid (N ≤ 3000) := by
    show _ ≤ _
    rw [← HN.out]
    unfold dealC
    split
    · rename_i h0
      unfold dealE at h0
      split at h0
      · rename_i h1; exact absurd h0 h1
      · rename_i h1
        have := may_cases _ _ _ (Decidable.not_not.1 h1)
        omega
    · omega
  have H7 : Hid (∀ u sv rv, Below M w u → Vf u sv S2 → Vf u rv R → Calls Tryd.prog 7 #[.int .u16 (sn : Nat), sv, .int .i64 nd, .int .i64 ct, rv] u fun e w' => DrQ er N T u.heap.size e u w') := fun u sv rv hu hs hr => by
    rw [← HER.out, ← HN.out, ← HT.out]
    exact rdeal_any sn hsn.out nd ct sv rv S2 R u (HT2.out u hu).2 hs hr
  have H8 : Hid (∀ u sv rv, Below M w u → Vf u sv S2 → Vf u rv R → Calls Tryd.prog 8 #[.int .u16 (sn : Nat), sv, .int .i64 nd, .int .i64 ct, rv] u fun e w' => DaQ er N T u.heap.size e u w') := fun u sv rv hu hs hr => by
    rw [← HER.out, ← HN.out, ← HT.out]
    exact deal_any sn hsn.out nd ct sv rv S2 R u (HT2.out u hu).1 hs hr
  have HMW : Hid (∀ u, Below (M + 1) w2 u → Below M w u) := fun u hu => H2.out.2.1.trans (hu.mono (Nat.le_succ _))
  obtain ⟨k0, k1, k2, k3⟩ := HC.out w5 HB5.out
  go_upto_region 6 with (go_at_call 7; refine (H7.out w5 (.slice a2 S2.length c2) v3 (HMW.out _ HB5.out) HV5.out.1 HV5.out.2.1).mono ?_; intro e6 w6 h6; obtain ⟨v6, rfl, h7, h8⟩ := h6; have H6 : Hid (TxR w6 v6 N T w5.heap.size ∧ Below w5.heap.size w5 w6) := ⟨h7, h8⟩; clear h7 h8)
  have HB6 : Hid (Below (M + 1) w2 w6 ∧ w5.heap.size ≤ w6.heap.size) := ⟨HB5.out.trans (H6.out.2.mono (by have := HB3.out; omega)), H6.out.2.size⟩
  clear k0 k1 k2 k3
  obtain ⟨k0, k1, k2, k3⟩ := HC.out w6 HB6.out.1
  go_upto_region 7 with (go_at_call 8; refine (H8.out w6 v4 v5 (HMW.out _ HB6.out.1) (HV5.out.2.2.1.below H6.out.2) (HV5.out.2.2.2.below H6.out.2)).mono ?_; intro e7 w7 h7; obtain ⟨v7, rfl, h8, h9⟩ := h7; have H7 : Hid (TxA w7 v7 N T w6.heap.size ∧ Below w6.heap.size w6 w7) := ⟨h8, h9⟩; clear h8 h9)
  have HB7 : Hid (Below (M + 1) w2 w7 ∧ w6.heap.size ≤ w7.heap.size) := ⟨HB6.out.1.trans (H7.out.2.mono (by have := HB3.out; have := HB6.out.2; omega)), H7.out.2.size⟩
  clear k0 k1 k2 k3
  obtain ⟨k0, k1, k2, k3⟩ := HC.out w7 HB7.out.1
  go_upto_region 8 with (go_at_call 8; refine (H8.out w7 v4 v5 (HMW.out _ HB7.out.1) ((HV5.out.2.2.1.below H6.out.2).below H7.out.2) ((HV5.out.2.2.2.below H6.out.2).below H7.out.2)).mono ?_; intro e8 w8 h8; obtain ⟨v8, rfl, h9, h10⟩ := h8; have H8 : Hid (TxA w8 v8 N T w7.heap.size ∧ Below w7.heap.size w7 w8) := ⟨h9, h10⟩; clear h9 h10)
  have HB8 : Hid (Below (M + 1) w2 w8 ∧ w7.heap.size ≤ w8.heap.size) := ⟨HB7.out.1.trans (H8.out.2.mono (by have := HB3.out; have := HB6.out.2; have := HB7.out.2; omega)), H8.out.2.size⟩
  clear k0 k1 k2 k3
  obtain ⟨k0, k1, k2, k3⟩ := HC.out w8 HB8.out.1
  obtain ⟨z, HZ⟩ : ∃ z, Hid (rnd nd (S2.length : Nat) = z) := ⟨_, rfl⟩
  have H9 : Hid (∀ u, Calls Tryd.prog 9 #[.int .i64 nd, .int .i64 (S2.length : Nat)] u fun e w' => e = .returned (.int .i64 z) ∧ w' = u) := fun u => by
    rw [← HZ.out]
    exact random_ok nd (S2.length : Int) u
  have H10 : Hid (∀ u, Calls Tryd.prog 10 #[.int .i64 nd, .int .i64 (S2.length : Nat)] u fun e w' => e = .returned (.int .i64 z) ∧ w' = u) := fun u => by
    rw [← HZ.out]
    exact rrandom_ok nd (S2.length : Int) u
  go_quiet (first
    | (go_at_call 9; exact Calls.quiet_of_same (H9.out _))
    | (go_at_call 10; exact Calls.quiet_of_same (H10.out _))
    | (go_at_call 11; exact Calls.quiet_of_same (numE_ok er _)))
  have HB9 : Hid (Below (M + 1) w2 (w8.drewN nq) ∧ Below w8.heap.size w8 (w8.drewN nq)) := ⟨below_drewN0 HB8.out.1 nq, below_drewN0 (Below.refl _ _) nq⟩
  clear k0 k1 k2 k3 H9 H10
  have HX : Hid (TxA (w8.drewN nq) v7 N T w6.heap.size ∧ TxA (w8.drewN nq) v8 N T w7.heap.size ∧ TxR (w8.drewN nq) v6 N T w5.heap.size) := by
    refine ⟨(H7.out.1.below H8.out.2).below HB9.out.2, H8.out.1.below HB9.out.2, ?_⟩
    have hb : Below w6.heap.size w6 (w8.drewN nq) := (H7.out.2.trans (H8.out.2.mono HB7.out.2)).trans (HB9.out.2.mono (Nat.le_trans HB7.out.2 HB8.out.2))
    exact H6.out.1.kept hb.size (fun g _ hg => hb.block g hg)
  have HMK : Hid (Marked w3.heap.size (w8.drewN nq) v4 (zi S2) ∧ Marked w4.heap.size (w8.drewN nq) v5 (zi R) ∧ Vf (w8.drewN nq) (.slice a2 S2.length c2) S2 ∧ Vf (w8.drewN nq) v3 R) := by
    have hb : Below w5.heap.size w5 (w8.drewN nq) := H6.out.2.trans ((H7.out.2.trans (H8.out.2.mono HB7.out.2)).trans (HB9.out.2.mono (Nat.le_trans HB7.out.2 HB8.out.2)) |>.mono HB6.out.2)
    exact ⟨HM5.out.1.kept (fun k hk => hb.block k hk), HM5.out.2.kept (fun k hk => hb.block k hk), HV5.out.1.below hb, HV5.out.2.1.below hb⟩
  have HSZ : Hid (w8.heap.size ≤ (w8.drewN nq).heap.size) := HB9.out.2.size
  have HW69 : Hid (Below w6.heap.size w6 (w8.drewN nq)) := (H7.out.2.trans (H8.out.2.mono HB7.out.2)).trans (HB9.out.2.mono (Nat.le_trans HB7.out.2 HB8.out.2))
  have HKR : Hid (∀ u, Below w6.heap.size w6 u → TxR u v6 N T w5.heap.size) := fun u hu => H6.out.1.kept hu.size (fun g _ hg => hu.block g hg)
  have HKM : Hid (∀ u, Below w6.heap.size w6 u → Marked w3.heap.size u v4 (zi S2)) := fun u hu => HM5.out.1.kept (fun k hk => (hu.block k (Nat.lt_of_lt_of_le hk HB6.out.2)).trans (H6.out.2.block k hk))
  have HOW : Hid (∀ g, some g = v7.ownBlock → w6.heap.size ≤ g ∧ g < w7.heap.size) := fun g e => H7.out.1.own g e
  have HOM : Hid (∀ g, some g = v4.ownBlock → M ≤ g ∧ g < w5.heap.size) := fun g e => by
    obtain ⟨g', c', rfl, q1, q2, _⟩ := marked_owns HM5.out.1
    injection e with e
    subst e
    exact ⟨by have := HB3.out; omega, q2⟩
  clear H6 H7 H8 HB5 HV5 HM5
  generalize w8.drewN nq = w9 at HB9 HX HMK HSZ HW69 ⊢
  obtain ⟨k0, k1, k2, k3⟩ := HC.out w9 HB9.out.1
  have HDR : Hid (∀ u, (∃ m, u = w9.drewN m) → TxA u v7 N T w6.heap.size ∧ TxA u v8 N T w7.heap.size ∧ TxR u v6 N T w5.heap.size ∧ Marked w3.heap.size u v4 (zi S2) ∧ Marked w4.heap.size u v5 (zi R) ∧ Vf u (.slice a2 S2.length c2) S2 ∧ Vf u v3 R ∧ Below (M + 1) w2 u ∧ w8.heap.size ≤ u.heap.size) := fun u hu => by
    obtain ⟨m, rfl⟩ := hu
    exact ⟨HX.out.1.below (below_drewN0 (Below.refl _ _) m), HX.out.2.1.below (below_drewN0 (Below.refl _ _) m), HX.out.2.2.kept (Nat.le_refl _) (fun g _ _ => rfl), HMK.out.1.kept (fun k hk => rfl), HMK.out.2.1.kept (fun k hk => rfl), HMK.out.2.2.1.below (below_drewN0 (Below.refl _ _) m), HMK.out.2.2.2.below (below_drewN0 (Below.refl _ _) m), below_drewN0 HB9.out.1 m, HSZ.out⟩
  have HDM : Hid (∀ u v : World, (∃ m, u = w9.drewN m) → (∃ m, v = u.drewN m) → ∃ m, v = w9.drewN m) := fun u v h1 h2 => by
    obtain ⟨m1, rfl⟩ := h1
    obtain ⟨m2, rfl⟩ := h2
    exact ⟨_, World.drewN_drewN _ _ _⟩
  have H12a : Hid (∀ u, (∃ m, u = w9.drewN m) → Calls Tryd.prog 12 #[v7, v6] u fun e w' => Hid (e = .returned (.bool true) ∧ ∃ m, w' = w9.drewN m)) := fun u hu => (same_ar HN3.out (HDR.out u hu).1 (HDR.out u hu).2.2.1).mono fun e w' hh => ⟨hh.1, HDM.out _ _ hu hh.2⟩
  have H12b : Hid (∀ u, (∃ m, u = w9.drewN m) → Calls Tryd.prog 12 #[v8, v6] u fun e w' => Hid (e = .returned (.bool true) ∧ ∃ m, w' = w9.drewN m)) := fun u hu => (same_ar HN3.out (HDR.out u hu).2.1 (HDR.out u hu).2.2.1).mono fun e w' hh => ⟨hh.1, HDM.out _ _ hu hh.2⟩
  have H13a : Hid (∀ u, (∃ m, u = w9.drewN m) → Calls Tryd.prog 13 #[v4, .slice a2 S2.length c2] u fun e w' => Hid (e = .returned (.bool true) ∧ ∃ m, w' = w9.drewN m)) := fun u hu => (whole_any v4 _ (zi S2) w3.heap.size _ (HDR.out u hu).2.2.2.1 (HDR.out u hu).2.2.2.2.2.1).mono fun e w' hh => ⟨hh.1, HDM.out _ _ hu hh.2⟩
  have H13b : Hid (∀ u, (∃ m, u = w9.drewN m) → Calls Tryd.prog 13 #[v5, v3] u fun e w' => Hid (e = .returned (.bool true) ∧ ∃ m, w' = w9.drewN m)) := fun u hu => (whole_any v5 _ (zi R) w4.heap.size _ (HDR.out u hu).2.2.2.2.1 (HDR.out u hu).2.2.2.2.2.2.1).mono fun e w' hh => ⟨hh.1, HDM.out _ _ hu hh.2⟩
  have HCR : Hid (∀ u, (∃ m, u = w9.drewN m) → u.cell? ⟨M, 1, none⟩ = some (.slice a2 S2.length c2)) := fun u hu => (HC.out u (HDR.out u hu).2.2.2.2.2.2.2.1).2.1
  clear k0 k1 k2 k3
  go_upto_region 12 with (first
    | (go_at_call 12; refine (H12a.out w9 ⟨0, rfl⟩).mono ?_; intro e q1 hh; obtain ⟨rfl, hd⟩ := hh.out; have HD1 : Hid (∃ m, q1 = w9.drewN m) := hd; clear hh hd H12a)
    | (go_at_call 12; refine (H12b.out q1 HD1.out).mono ?_; intro e q2 hh; obtain ⟨rfl, hd⟩ := hh.out; have HD2 : Hid (∃ m, q2 = w9.drewN m) := hd; clear hh hd H12b; have k1 := HCR.out q2 HD2.out)
    | (go_at_call 13; refine (H13a.out q2 HD2.out).mono ?_; intro e q3 hh; obtain ⟨rfl, hd⟩ := hh.out; have HD3 : Hid (∃ m, q3 = w9.drewN m) := hd; clear hh hd H13a)
    | (go_at_call 13; refine (H13b.out q3 HD3.out).mono ?_; intro e w10 hh; obtain ⟨rfl, hd⟩ := hh.out; have HD4 : Hid (∃ m, w10 = w9.drewN m) := hd; clear hh hd H13b)
    | fail)
  have HY : Hid (TxA w10 v7 N T w6.heap.size ∧ TxA w10 v8 N T w7.heap.size ∧ TxR w10 v6 N T w5.heap.size ∧ Marked w3.heap.size w10 v4 (zi S2) ∧ Below (M + 1) w2 w10 ∧ w8.heap.size ≤ w10.heap.size) := by
    obtain ⟨q1, q2, q3, q4, q5, q6, q7, q8, q9⟩ := HDR.out _ HD4.out
    exact ⟨q1, q2, q3, q4, q8, q9⟩
  have HW6 : Hid (Below w6.heap.size w6 w10) := by
    obtain ⟨m, hm⟩ := HD4.out
    rw [hm]
    exact below_drewN0 HW69.out m
  clear HX HMK HB9 HSZ HDR HDM HCR HD1 HD2 HD3 HD4 k1
  have HW : Hid (M + 1 ≤ w3.heap.size ∧ w3.heap.size ≤ w5.heap.size ∧ w5.heap.size ≤ w6.heap.size ∧ w6.heap.size ≤ w7.heap.size ∧ w7.heap.size ≤ w10.heap.size) := ⟨HB3.out.1, Nat.le_trans HB3.out.2.1 HB3.out.2.2, HB6.out.2, HB7.out.2, Nat.le_trans HB8.out.2 HY.out.2.2.2.2.2⟩
  have H14 : Hid (Calls Tryd.prog 14 #[v7] w10 fun e w' => Hid (e = .returned (.tuple #[]) ∧ Below w6.heap.size w10 w' ∧ ∀ g, some g ≠ v7.ownBlock → g < w10.heap.size → w'.heap[g]? = w10.heap[g]?)) := spoil_tx HN3.out HY.out.1 (by have := HW.out; omega)
  go_upto_region 13 with (go_at_call 14; refine H14.out.mono ?_; intro e11 w11 h11; obtain ⟨rfl, h12, h13⟩ := h11.out; have H11 : Hid (TxA w11 v8 N T w7.heap.size ∧ TxR w11 v6 N T w5.heap.size ∧ Marked w3.heap.size w11 v4 (zi S2) ∧ Below (M + 1) w2 w11 ∧ w10.heap.size ≤ w11.heap.size) := (by
      have hb : Below w6.heap.size w6 w11 := HW6.out.trans h12
      exact ⟨HY.out.2.1.kept (fun g q1 q2 => h13 g (fun e => by have := HOW.out g e; omega) q2), HKR.out w11 hb, HKM.out w11 hb, HY.out.2.2.2.2.1.trans (h12.mono (by have := HW.out; omega)), h12.size⟩); clear h11 h12 h13)
  clear H14 HY HW6 HW69 HKR HKM HOW
  have H15 : Hid (Calls Tryd.prog 15 #[v4] w11 fun e w' => Hid (e = .returned (.tuple #[]) ∧ w11.grownBy w' v4.ownBlock)) := by
    obtain ⟨g', c', he, q1, q2, q3⟩ := marked_owns H11.out.2.2.1
    exact (spoil_any w3.heap.size (zi S2).length v4 (zi S2) w11 (by rw [zi_len]; have := HS3.out; omega) (by have := HW.out; have := H11.out.2.2.2.2; omega) q3).mono fun e w' hh => hh
  go_upto_region 14 with (go_at_call 15; refine H15.out.mono ?_; intro e12 w12 h12; obtain ⟨rfl, h13⟩ := h12.out; have H12 : Hid (TxA w12 v8 N T w7.heap.size ∧ TxR w12 v6 N T w5.heap.size ∧ Below M w w12) := (by
      refine ⟨H11.out.1.kept (fun g q1 q2 => h13.block g q2 (fun e => by have := HOM.out g e; have := HW.out; omega)), H11.out.2.1.kept h13.size (fun g q1 q2 => h13.block g q2 (fun e => by have := HOM.out g e; omega)), (HMW.out _ H11.out.2.2.2.1).trans ⟨h13.os, h13.tape, h13.output, h13.size, fun k hk => h13.block k (by have := HW.out; have := H11.out.2.2.2.2; omega) (fun e => by have := HOM.out k e; omega)⟩⟩); clear h12 h13)
  have H12' : Hid (Calls Tryd.prog 12 #[v8, v6] w12 fun e w' => e = .returned (.bool true) ∧ ∃ m, w' = w12.drewN m) := same_ar HN3.out H12.out.1 H12.out.2.1
  go_wp2_with (go_at_call 12; refine H12'.out.mono ?_; rintro e13 w13 ⟨rfl, hd⟩; have HD : Hid (∃ m, w13 = w12.drewN m) := hd; clear hd)
  go_ret
  refine ⟨rfl, ?_⟩
  obtain ⟨m, rfl⟩ := HD.out
  exact below_drewN0 H12.out.2.2 m
end Go.Proofs.YtbpkocohddlbhaaDoor
namespace Go.Proofs.YtbpkocohddlbhaaDoor
open Go.ChangeShapes Go.WideShapes Go.ChangeAt Go.RowKit

theorem own : ownKnob Tryd.prog.godebug = none := by kernel_rfl
theorem laidOut : laidOutB Tryd.prog = true := by kernel_rfl
theorem cells5 : Tryd.prog.cellsOf 5 = 1 := by kernel_rfl
theorem bytes5 : Tryd.prog.bytesOf 5 = 1 := by kernel_rfl

/-- What came in as a list of bytes. -/
theorem open_bytes {H : Type} {enc : TypeId × Value → H} {W : World} {a : Option Addr} {len cap : Nat} {d : DataW H} {p : List MemPlace}
    (h : DataW.Trod enc Tryd.prog W 0 (fun _ => true) true 23 (.slice a len cap) d p) :
    ∃ xs : List Int, xs.length = len ∧ AllBytes xs ∧ View W (.slice a len cap) xs ∧ (d = .nil ∧ xs = [] ∨ ∃ sp, d = .slice (lits .u8 xs) sp) := by
  obtain ⟨fuel, hf⟩ := h
  rcases open_ints Tryd.underlying23 Tryd.underlying5 cells5 hf with ⟨hcs, hx⟩ | ⟨x, l, c, zs, hcs, _, hl, hm, hz, hx, hcell, hwz⟩
  · simp [Value.cells] at hcs
    obtain ⟨rfl, rfl, rfl⟩ := hcs
    simp only [Prod.mk.injEq] at hx
    refine ⟨[], rfl, fun i => by simp, ⟨none, 0, rfl, Nat.le_refl _, by simp, fun _ => rfl, .inl rfl⟩, .inl ⟨hx.1, rfl⟩⟩
  · simp [Value.cells] at hcs
    obtain ⟨rfl, rfl, rfl⟩ := hcs
    simp only [Prod.mk.injEq] at hx
    have hzl : zs.length = cap := by simpa using hz
    have hlen : (zs.take len).length = len := by simp; omega
    have hw : ∀ n ∈ zs, 0 ≤ n ∧ n < 256 := by
      intro n hn
      have := hwz n hn
      have h1 : IntKind.u8.min = 0 := rfl
      have h2 : IntKind.u8.max = 255 := rfl
      simp only [Lit.wf, Bool.and_eq_true, decide_eq_true_eq] at this
      omega
    refine ⟨zs.take len, hlen, ?_, ⟨some x, cap, by rw [hlen], by omega, hm, (fun h => by cases h), ?_⟩, .inr ⟨_, hx.1⟩⟩
    · intro i
      rw [List.getD_eq_getElem?_getD]
      cases hg : (zs.take len)[i]? with
      | none => simp
      | some n =>
        have hn : n ∈ zs := List.mem_of_mem_take (List.mem_of_getElem? hg)
        simpa using hw n hn
    · by_cases h0 : len = 0
      · left
        subst h0
        simp
      · right
        obtain ⟨b, off, spot⟩ := x
        have hc0 := hcell 0 (by omega)
        have hspot : spot = none := by simpa [Addr.add] using World.cell?_spot hc0
        subst hspot
        refine ⟨b, off, rfl, fun i hi => ?_⟩
        rw [hlen] at hi
        have := hcell i (by omega)
        rw [Addr.add_lit] at this
        rw [this]
        congr 2
        simp [List.getD_eq_getElem?_getD, hi]

/-- The reach of it. -/
theorem reach_bytes {H : Type} {ts : List TypeId} {ds : List (DataW H)} (hsz : (DataW.weightsEach Tryd.prog ts ds).all (· ≤ reachBytes) = true) {j : Nat} {d : DataW H} {xs : List Int}
    (ht : ts[j]? = some 23) (hd : ds[j]? = some d) (h : d = .nil ∧ xs = [] ∨ ∃ sp, d = .slice (lits .u8 xs) sp) : xs.length ≤ 140737488351232 := by
  rcases h with ⟨_, rfl⟩ | ⟨sp, rfl⟩
  · simp
  · have := sized_slice hsz (j := j) (t := 23) (e := 5) ht hd Tryd.underlying23
    rw [bytes5] at this
    simp only [lits, List.length_map, reachBytes] at this
    omega
end Go.Proofs.YtbpkocohddlbhaaDoor
namespace Go.Proofs.YtbpkocohddlbhaaDoor
open Go.ChangeShapes Go.WideShapes Go.ChangeAt Go.RowKit
set_option linter.unusedVariables false

theorem cells3 : Tryd.prog.cellsOf 3 = 1 := by kernel_rfl
theorem cells23 : Tryd.prog.cellsOf 23 = 1 := by kernel_rfl
theorem array5 {α : Type} {cs : Array α} (h : cs.size = 5) : ∃ c0 c1 c2 c3 c4, cs = #[c0, c1, c2, c3, c4] := by
  obtain ⟨l⟩ := cs
  match l, h with
  | [c0, c1, c2, c3, c4], _ => exact ⟨c0, c1, c2, c3, c4, rfl⟩
set_option maxRecDepth 100000 in
/-- An int's cell. -/
theorem cell_int {H : Type} {enc : TypeId × Value → H} {W : World} {n : Nat} {c : Value} {y : DataW H × List MemPlace} (h : DataW.trod enc Tryd.prog W 0 (fun _ => true) true n 3 [c] = some y) : ∃ z, c = .int .i64 z := by
  obtain ⟨z, hz, _⟩ := DataW.trod_int Tryd.underlying3 h
  exact ⟨z, by simpa using hz⟩
theorem cell_bytes {H : Type} {enc : TypeId × Value → H} {W : World} {n : Nat} {c : Value} {y : DataW H × List MemPlace} (h : DataW.trod enc Tryd.prog W 0 (fun _ => true) true n 23 [c] = some y) : ∃ a l cap xs, c = .slice a l cap ∧ View W (.slice a l cap) xs := by
  have hc : ∃ a l cap, c = .slice a l cap := by
    rcases open_ints Tryd.underlying23 Tryd.underlying5 cells5 h with ⟨hcs, _⟩ | ⟨a, l, cap, zs, hcs, _⟩
    · exact ⟨none, 0, 0, by simpa using hcs⟩
    · exact ⟨some a, l, cap, by simpa using hcs⟩
  obtain ⟨a, l, cap, rfl⟩ := hc
  obtain ⟨xs, _, _, hv, _⟩ := open_bytes (enc := enc) (W := W) (a := a) (len := l) (cap := cap) (d := y.1) (p := y.2) ⟨n, by simpa [Value.cells] using h⟩
  exact ⟨a, l, cap, xs, rfl, hv⟩
/-- Bytes in a cell, all bytes. -/
theorem cell_bytesF {H : Type} {enc : TypeId × Value → H} {W : World} {n : Nat} {c : Value} {y : DataW H × List MemPlace} (h : DataW.trod enc Tryd.prog W 0 (fun _ => true) true n 23 [c] = some y) : ∃ a l cap xs, c = .slice a l cap ∧ AllBytes xs ∧ View W (.slice a l cap) xs := by
  have hc : ∃ a l cap, c = .slice a l cap := by
    rcases open_ints Tryd.underlying23 Tryd.underlying5 cells5 h with ⟨hcs, _⟩ | ⟨a, l, cap, zs, hcs, _⟩
    · exact ⟨none, 0, 0, by simpa using hcs⟩
    · exact ⟨some a, l, cap, by simpa using hcs⟩
  obtain ⟨a, l, cap, rfl⟩ := hc
  obtain ⟨xs, _, hb, hv, _⟩ := open_bytes (enc := enc) (W := W) (a := a) (len := l) (cap := cap) (d := y.1) (p := y.2) ⟨n, by simpa [Value.cells] using h⟩
  exact ⟨a, l, cap, xs, rfl, hb, hv⟩
theorem cell_u16 {H : Type} {enc : TypeId × Value → H} {W : World} {n : Nat} {c : Value} {y : DataW H × List MemPlace} (h : DataW.trod enc Tryd.prog W 0 (fun _ => true) true n 22 [c] = some y) : ∃ z : Nat, c = .int .u16 (z : Nat) ∧ z < 65536 := by
  obtain ⟨z, hz, _, hw⟩ := DataW.trod_int Tryd.underlying22 h
  simp [Lit.wf, IntKind.min, IntKind.max, IntKind.signed, IntKind.bits] at hw
  have e : c = .int .u16 z := by simpa using hz
  exact ⟨z.toNat, by rw [e]; congr 1; omega, by omega⟩
theorem cell_bool {H : Type} {enc : TypeId × Value → H} {W : World} {n : Nat} {c : Value} {y : DataW H × List MemPlace} (h : DataW.trod enc Tryd.prog W 0 (fun _ => true) true n 4 [c] = some y) : ∃ b, c = .bool b := by
  obtain ⟨z, hz, _⟩ := DataW.trod_bool Tryd.underlying4 h
  exact ⟨z, by simpa using hz⟩
theorem array6 {α : Type} {cs : Array α} (h : cs.size = 6) : ∃ c0 c1 c2 c3 c4 c5, cs = #[c0, c1, c2, c3, c4, c5] := by
  obtain ⟨l⟩ := cs
  match l, h with
  | [c0, c1, c2, c3, c4, c5], _ => exact ⟨c0, c1, c2, c3, c4, c5, rfl⟩
theorem zi_of (xs : List Int) (h : AllBytes xs) : ∃ l : List F, zi l = xs := by
  refine ⟨xs.map fI, ?_⟩
  unfold zi
  rw [List.map_map]
  refine (List.map_congr_left fun x hx => ?_).trans (List.map_id _)
  obtain ⟨i, hi, rfl⟩ := List.mem_iff_getElem.1 hx
  have q := h i
  rw [List.getD_eq_getElem?_getD, List.getElem?_eq_getElem hi] at q
  simp only [Option.getD_some] at q
  show ((xs[i].toNat % 256 : Nat) : Int) = _
  simp only [id_eq]
  omega
theorem cells25s : Tryd.prog.cellsOf 25 = 6 := by kernel_rfl
theorem cells22s : Tryd.prog.cellsOf 22 = 1 := by kernel_rfl
theorem cells4s : Tryd.prog.cellsOf 4 = 1 := by kernel_rfl
set_option maxRecDepth 100000 in
/-- A Deal that came in. -/
theorem open_deal {H : Type} {enc : TypeId × Value → H} {W : World} {r : Reach} {b0 : Nat} {v : Value} {d : DataW H} {p : List MemPlace} (hv : Value.okWide Tryd.prog W r b0 25 v) (h : DataW.Trod enc Tryd.prog W 0 (fun _ => true) true 25 v d p) :
    ∃ (sn : Nat) (nd ct : Int) (own : Bool) (sa ra : Option Addr) (sl sc rl rc : Nat) (S R : List F), sn < 65536 ∧ v = .agg #[.int .u16 (sn : Nat), .slice sa sl sc, .int .i64 nd, .int .i64 ct, .bool own, .slice ra rl rc] ∧ Vf W (.slice sa sl sc) S ∧ Vf W (.slice ra rl rc) R := by
  obtain ⟨cs, rfl, hsz⟩ := okWide_struct Tryd.underlying25 hv
  obtain ⟨c0, c1, c2, c3, c4, c5, rfl⟩ := array6 (hsz.trans cells25s)
  obtain ⟨fuel, hf⟩ := h
  obtain ⟨xs, n, _, hx, _, hlen, hfs⟩ := DataW.trod_struct Tryd.underlying25 hf
  match xs, hlen with
  | [y0, y1, y2, y3, y4, y5], _ =>
    have h0 := hfs 0 _ rfl
    have h1 := hfs 1 _ rfl
    have h2 := hfs 2 _ rfl
    have h3 := hfs 3 _ rfl
    have h4 := hfs 4 _ rfl
    have h5 := hfs 5 _ rfl
    simp [Value.cells, cells3, cells23, cells22s, cells4s] at h0 h1 h2 h3 h4 h5
    obtain ⟨sn, rfl, hsn⟩ := cell_u16 h0
    obtain ⟨sa, sl, sc, S, rfl, bS, vS⟩ := cell_bytesF h1
    obtain ⟨nd, rfl⟩ := cell_int h2
    obtain ⟨ct, rfl⟩ := cell_int h3
    obtain ⟨own, rfl⟩ := cell_bool h4
    obtain ⟨ra, rl, rc, R, rfl, bR, vR⟩ := cell_bytesF h5
    obtain ⟨S', rfl⟩ := zi_of S bS
    obtain ⟨R', rfl⟩ := zi_of R bR
    exact ⟨sn, nd, ct, own, sa, ra, sl, sc, rl, rc, S', R', hsn, rfl, vS, vR⟩
end Go.Proofs.YtbpkocohddlbhaaDoor
namespace Go.Proofs.YtbpkocohddlbhaaDoor
open Go.ChangeShapes Go.WideShapes Go.ChangeAt Go.RowKit
set_option linter.unusedVariables false
/-- A block that holds a table. -/
def refilled2 (zs : List Int) : Obj → Obj
  | .cells _ t frozen => .cells (zs.map (Value.int .u64)).toArray t frozen
  | o => o
/-- The four tables, as the row lays them. -/
theorem tables_of4 {W : World} (h : laidMet Tryd.prog [("coffer/cofferref01.cubes", Lib.tabData .u64 cubesL), ("coffer/cofferref01.squares", Lib.tabData .u64 rootsL), ("coffer/digest.roots", Lib.tabData .u64 rootsL), ("coffer/digest.cubes", Lib.tabData .u64 cubesL)] W) : Tables W ∧ RTab W := by
  have h1 : Lib.TabIs Tryd.prog W "coffer/cofferref01.cubes" .u64 cubesL := Lib.tabIs_of_head (g := 1) (t := 91) (e := 65) (n := 80) (by kernel_rfl) (by kernel_rfl) (by kernel_rfl) (by kernel_rfl) (by kernel_rfl) (by kernel_rfl) h
  obtain ⟨ps, ⟨g1, t1, cs1, fuel1, p1, q1, _, _, _, _, hr2, _⟩, _⟩ := h
  obtain ⟨g2, t2, cs2, fuel2, p2, q2, hg2, ht2, hvar2, hd2, hr3, _⟩ := hr2
  obtain ⟨g3, t3, cs3, fuel3, p3, q3, hg3, ht3, hvar3, hd3, hr4, _⟩ := hr3
  obtain ⟨g4, t4, cs4, fuel4, p4, q4, hg4, ht4, hvar4, hd4, _, _⟩ := hr4
  have h2 : Lib.TabIs Tryd.prog W "coffer/cofferref01.squares" .u64 rootsL := by
    have hg : Tryd.prog.globalNamed "coffer/cofferref01.squares" = some 0 := by kernel_rfl
    obtain rfl := Option.some.inj (hg.symm.trans hg2)
    have hty : (Tryd.prog.globals[0]?).map (·.type) = some 88 := by kernel_rfl
    obtain rfl := Option.some.inj (hty.symm.trans ht2)
    unfold Lib.TabIs
    rw [hvar2, ← Lib.cells_of_tab (n := 16) (e := 65) (by kernel_rfl) (by kernel_rfl) (by kernel_rfl) (by kernel_rfl) hd2]
  have h3 : Lib.TabIs Tryd.prog W "coffer/digest.roots" .u64 rootsL := by
    have hg : Tryd.prog.globalNamed "coffer/digest.roots" = some 2 := by kernel_rfl
    obtain rfl := Option.some.inj (hg.symm.trans hg3)
    have hty : (Tryd.prog.globals[2]?).map (·.type) = some 88 := by kernel_rfl
    obtain rfl := Option.some.inj (hty.symm.trans ht3)
    unfold Lib.TabIs
    rw [hvar3, ← Lib.cells_of_tab (n := 16) (e := 65) (by kernel_rfl) (by kernel_rfl) (by kernel_rfl) (by kernel_rfl) hd3]
  have h4 : Lib.TabIs Tryd.prog W "coffer/digest.cubes" .u64 cubesL := by
    have hg : Tryd.prog.globalNamed "coffer/digest.cubes" = some 3 := by kernel_rfl
    obtain rfl := Option.some.inj (hg.symm.trans hg4)
    have hty : (Tryd.prog.globals[3]?).map (·.type) = some 91 := by kernel_rfl
    obtain rfl := Option.some.inj (hty.symm.trans ht4)
    unfold Lib.TabIs
    rw [hvar4, ← Lib.cells_of_tab (n := 80) (e := 65) (by kernel_rfl) (by kernel_rfl) (by kernel_rfl) (by kernel_rfl) hd4]
  exact ⟨⟨fun t ht => h4.cell (by kernel_rfl) t (by simpa [cubesL] using ht), fun t ht => h3.cell (by kernel_rfl) t (by simpa [rootsL] using ht)⟩, ⟨fun t ht => h1.cell (by kernel_rfl) t (by simpa [cubesL] using ht), fun t ht => h2.cell (by kernel_rfl) t (by simpa [rootsL] using ht)⟩⟩

end Go.Proofs.YtbpkocohddlbhaaDoor
