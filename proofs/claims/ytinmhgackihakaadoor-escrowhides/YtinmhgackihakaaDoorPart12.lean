import Derived.Test.YtinmhgackihakaaDoorPart11
import Derived.Test.YtinmhgackihakaaDoorPart00
import Derived.WalkKit
namespace Go.Proofs.YtinmhgackihakaaDoor
open Go.RowKit
set_option linter.unusedVariables false
set_option linter.unusedSimpArgs false
set_option maxRecDepth 100000
/-- The law's random bytes. -/
def rndF (Rd : List F) (i : Nat) : F := if Rd.length = 0 then fN (i * i + 7) else fN ((Rd.getD (i % Rd.length) 0).1 + i / Rd.length)
def rndL (Rd : List F) (n : Nat) : List F := (List.range n).map (rndF Rd)
theorem rndL_succ (Rd : List F) (n : Nat) : rndL Rd (n + 1) = rndL Rd n ++ [rndF Rd n] := by simp [rndL, List.range_succ]
theorem rndL_len (Rd : List F) (n : Nat) : (rndL Rd n).length = n := by simp [rndL]
def rnd5 (own : Bool) (Rd : List F) (nd s : Int) : List F := if own then Rd.take 2000 else rndL Rd (rnd nd s).toNat
theorem rnd_few (nd s : Int) : ∃ N : Nat, rnd nd s = (N : Nat) ∧ N ≤ 1020 := by
  unfold rnd
  split
  · rename_i h
    have h1 : 0 ≤ (nd - 1) * (s + 4) := Int.mul_nonneg (by omega) (by omega)
    have h2 : (nd - 1) * (s + 4) ≤ 15 * 68 := Int.mul_le_mul (by omega) (by omega) (by omega) (by omega)
    exact ⟨((nd - 1) * (s + 4)).toNat, by omega, by omega⟩
  · exact ⟨0, rfl, by omega⟩
theorem rndF_none (Rd : List F) (i : Nat) (h : Rd.length = 0) (hi : i ≤ 1100) : IntKind.u8.wrap ((i * i + 7 : Nat) : Int) = ((rndF Rd i).1 : Nat) := by
  unfold rndF
  rw [if_pos h]
  unfold fN IntKind.wrap
  simp [IntKind.bits, IntKind.signed]
theorem rndF_some (Rd : List F) (i q d : Nat) (x : F) (h : Rd.length ≠ 0) (hq : q = i % Rd.length) (hd : d = i / Rd.length) (hx : Rd.getD q 0 = x) : IntKind.u8.wrap ((x.1 : Nat) + IntKind.u8.wrap (d : Int)) = ((rndF Rd i).1 : Nat) := by
  unfold rndF
  rw [if_neg h, ← hq, ← hd, hx]
  unfold fN IntKind.wrap
  simp [IntKind.bits, IntKind.signed]
def RnQ (L : List F) (M : Nat) (e : Ending) (w w' : World) : Prop := ∃ v, e = .returned v ∧ Vf w' v L ∧ Below M w w'
theorem rndN (nd s : Int) (own : Bool) (Rd : List F) : (rnd5 own Rd nd s).length ≤ 2000 := by
  obtain ⟨N, h, h1⟩ := rnd_few nd s
  unfold rnd5
  split
  · rw [List.length_take]; omega
  · rw [rndL_len, h]; omega
set_option maxHeartbeats 1600000 in
/-- The random bytes of a law. -/
theorem random5_ok (sn nd ct : Int) (own : Bool) (sa ra : Option Addr) (s sc rl rc : Nat) (Rd : List F) (w : World) (hl : Hid (rl = Rd.length)) (h : Vf w (.slice ra rl rc) Rd) :
    Calls Tryd.prog 12 #[.agg #[.int .u16 sn, .slice sa s sc, .int .i64 nd, .int .i64 ct, .bool own, .slice ra rl rc]] w fun e w' => RnQ (rnd5 own Rd nd s) w.heap.size e w w' := by
  obtain ⟨M, HMM⟩ : ∃ M, Hid (w.heap.size = M) := ⟨_, rfl⟩
  have HV : Hid (Vf w (.slice ra rl rc) Rd) := h
  obtain ⟨P, HP⟩ : ∃ P : List Value, Hid ([.int .u16 sn, .slice sa s sc, .int .i64 nd, .int .i64 ct, .bool own, .slice ra rl rc] = P) := ⟨_, rfl⟩
  obtain ⟨w1, hw1⟩ : ∃ u, u = w.alloc (.cells #[.int .u16 sn, .slice sa s sc, .int .i64 nd, .int .i64 ct, .bool own, .slice ra rl rc] 25) := ⟨_, rfl⟩
  have H1 : Hid (Bx w1 M 25 P ∧ Below M w w1 ∧ w1.heap.size = M + 1) := by
    rw [← HP.out, ← HMM.out, hw1]
    exact ⟨Bx.new w 25 _, (Below.refl _ _).alloc (Nat.le_refl _) _, by simp⟩
  have HC : Hid (∀ u, Below (M + 1) w1 u → u.cell? ⟨M, 1, none⟩ = some (.slice sa s sc) ∧ u.cell? ⟨M, 2, none⟩ = some (.int .i64 nd) ∧ u.cell? ⟨M, 4, none⟩ = some (.bool own) ∧ u.cell? ⟨M, 5, none⟩ = some (.slice ra rl rc)) := fun u hu => by
    have q : Bx u M 25 P := H1.out.1.keep (hu.block M (by omega))
    rw [← HP.out] at q
    exact ⟨q.cell 1 _ rfl, q.cell 2 _ rfl, q.cell 4 _ rfl, q.cell 5 _ rfl⟩
  obtain ⟨k1, k2, k4, k5⟩ := HC.out w1 (Below.refl _ _)
  obtain ⟨N, hN, hN2⟩ := rnd_few nd s
  have HN : Hid (rnd nd s = (N : Nat) ∧ N ≤ 1020) := ⟨hN, hN2⟩
  clear hN hN2
  cases own with
  | true =>
    have H4 : Hid (Calls Tryd.prog 6 #[.slice ra rl rc, .int .i64 2000] w1 fun e w' => CutQ Rd 2000 e w1 w') := cut_any (.slice ra rl rc) Rd 2000 (by omega) w1 (HV.out.below (by rw [HMM.out]; exact H1.out.2.1))
    rw [HMM.out]
    go_enter Tryd.func12, Tryd.ntmps12
    go_upto_region 1 with fail
    rw [← hw1, HMM.out]
    clear hw1
    go_wp2_with (go_at_call 6; refine H4.out.mono ?_; intro e2 w2 h2; obtain ⟨v2, rfl, h3, hw⟩ := h2; obtain rfl := hw.symm; have H2 : Hid (Vf w1 v2 (Rd.take 2000)) := h3; clear h3 hw)
    go_ret
    exact ⟨v2, rfl, H2.out, H1.out.2.1⟩
  | false =>
    have HRL : Hid (rnd5 false Rd nd s = rndL Rd N) := by
      show _ = _
      unfold rnd5
      rw [HN.out.1]
      rfl
    rw [HRL.out]
    have H10 : Hid (∀ u, Calls Tryd.prog 21 #[.int .i64 nd, .int .i64 (s : Nat)] u fun e w' => e = .returned (.int .i64 (N : Nat)) ∧ w' = u) := fun u => by
      have q := rrandom_ok nd (s : Int) u
      rw [HN.out.1] at q
      exact q
    obtain ⟨i0, hi, hz0, hz1, hz2⟩ := info_parts Tryd.infoB
    have HI0 : Hid (Tryd.prog.info? 5 = some i0 ∧ i0.zero = some (.int .u8 0) ∧ i0.size = 1 ∧ i0.bytes = 1) := ⟨hi, hz0, hz1, hz2⟩
    clear hi hz0 hz1 hz2
    rw [HMM.out]
    go_enter Tryd.func12, Tryd.ntmps12
    go_upto_region 1 with fail
    rw [← hw1, HMM.out]
    clear hw1
    go_upto_region 4 with (go_at_call 21; refine (H10.out _).mono ?_; rintro e2 w2 ⟨rfl, hw2⟩; obtain rfl := hw2.symm; clear hw2)
    have HST : Hid (w1.ownsRow (M + 1) 5 1 (.slice none 0 0) 0 (fc (rndL Rd 0)) ∧ Below (M + 1) w1 w1) := ⟨World.ownsRow_nil _ _ _ _, Below.refl _ _⟩
    clear k1 k2 k4 k5
    go_wp2
    go_loopw [4, 5] (fun vv vi wr => ∃ i : Nat, i ≤ N ∧ vi = .int .i64 (i : Nat) ∧ Hid (wr.ownsRow (M + 1) 5 1 vv i (fc (rndL Rd i)) ∧ Below (M + 1) w1 wr)) (fun _ vi _ => N - (intOf vi).toNat)
    case atStart => exact ⟨0, by omega, rfl, HST.out⟩
    case round =>
      clear HST
      obtain ⟨i, hi, rfl, HI⟩ := hrel
      rename World => wr
      by_cases hlt : i < N
      · obtain ⟨k1, k2, k4, k5⟩ := HC.out wr HI.out.2
        have HLT : Hid (i < N ∧ M + 1 ≤ wr.heap.size ∧ N ≤ 1020) := ⟨hlt, by rw [← H1.out.2.2]; exact HI.out.2.size, HN.out.2⟩
        have g1 : (i : Int) < (N : Int) := by omega
        have gi1 : IntKind.i64.wrap ((i : Int) + 1) = ((i + 1 : Nat) : Int) := by rw [IntKind.wrap_i64]; have := HN.out.2; omega
        clear hlt hi
        by_cases hz : Rd.length = 0
        · obtain rfl : rl = 0 := by have := hl.out; omega
          obtain ⟨ii, HII⟩ : ∃ ii : Nat, Hid (ii = i * i) := ⟨i * i, show _ = _ from rfl⟩
          have HIB : Hid (ii ≤ 1020 * 1020) := by show _ ≤ _; rw [HII.out]; exact Nat.mul_le_mul (by have := HLT.out; omega) (by have := HLT.out; omega)
          have x1 : IntKind.i64.wrap ((i : Int) * (i : Int)) = (ii : Int) := by rw [show ((i : Int) * (i : Int)) = (ii : Int) by rw [HII.out]; exact (Int.natCast_mul i i).symm, IntKind.wrap_i64]; have := HIB.out; omega
          obtain ⟨i7, HI7⟩ : ∃ i7 : Nat, Hid (i7 = ii + 7) := ⟨ii + 7, show _ = _ from rfl⟩
          have x2 : IntKind.i64.wrap ((ii : Int) + 7) = (i7 : Int) := by rw [IntKind.wrap_i64]; have := HIB.out; have := HI7.out; omega
          obtain ⟨Y, HY⟩ : ∃ Y : F, Hid (rndF Rd i = Y) := ⟨_, rfl⟩
          have x3 : IntKind.u8.wrap (i7 : Int) = ((Y.1 : Nat) : Int) := by rw [HI7.out, HII.out, rndF_none Rd i hz (by have := HLT.out; omega), HY.out]
          clear HIB
          go_wp2_with (first
            | (at_builtin; go_must (refine wpList_append_own _ rfl (.tmp 26) (.tmp 32) 23 rfl (M + 1) 5 i0 (.int .u8 0) 1 1 Tryd.underlying23 HI0.out.1 HI0.out.2.1 HI0.out.2.2.1 HI0.out.2.2.2 rfl (by decide) _ i _ rfl (HI.out.1.alloc _) ⟨wr.heap.size, 0, none⟩ 1 1 [.int .u8 (Y.1 : Nat)] rfl rfl (one_cell wr _ 5) (one_u8 _) (by have := HLT.out; unfold maxLen; omega) (by have := HLT.out; omega) (by have := HLT.out; simp; omega) ?_; intro v4 w4 hown hgrow hnil; have H4 : Hid (w4.ownsRow (M + 1) 5 1 v4 (i + 1) (fc (rndL Rd (i + 1))) ∧ Below (M + 1) w1 w4) := ⟨by rw [rndL_succ, fc_append, HY.out]; exact hown, (HI.out.2.alloc HLT.out.2.1 _).grown hgrow (by have := HLT.out; simp; omega) (fun q hq => (HI.out.1.lt q hq).1)⟩; clear hown hgrow hnil))
            | fail)
          go_roundw
          case rel => exact ⟨i + 1, by have := HLT.out; omega, rfl, H4.out⟩
          case measure => simp [intOf]; have := HLT.out; omega
        · obtain ⟨a', c', e', h1', h2', h3', h4'⟩ := HV.out.parts
          injection e' with e1 e2 e3
          subst e1 e3
          obtain ⟨rb, ro, rfl, hr⟩ : ∃ rb ro, ra = some ⟨rb, ro, none⟩ ∧ Rw w rb ro Rd := by
            rcases h4' with q | q
            · rw [q] at hz; exact absurd rfl hz
            · exact q
          clear h1' h2' h3' h4' e2
          obtain ⟨q, HQ⟩ : ∃ q : Nat, Hid (q = i % Rd.length) := ⟨i % Rd.length, show _ = _ from rfl⟩
          obtain ⟨d, HD⟩ : ∃ d : Nat, Hid (d = i / Rd.length) := ⟨i / Rd.length, show _ = _ from rfl⟩
          have hq : q < Rd.length := by rw [HQ.out]; exact Nat.mod_lt _ (by omega)
          obtain ⟨X, HX⟩ : ∃ X : F, Hid (Rd.getD q 0 = X) := ⟨_, rfl⟩
          have HCX : Hid (∀ u, Below wr.heap.size wr u → u.cell? ⟨rb, ro + q, none⟩ = some (.int .u8 (X.1 : Nat)) ∧ u.cell? ⟨M, 5, none⟩ = some (.slice (some ⟨rb, ro, none⟩) rl rc)) := fun u hu => by
            have hb : Below (M + 1) w1 u := HI.out.2.trans (hu.mono HLT.out.2.1)
            refine ⟨?_, (HC.out u hb).2.2.2⟩
            have hc := hr q hq
            rw [HX.out] at hc
            exact ((H1.out.2.1.trans (hb.mono (by omega))).cell (by rw [← HMM.out]; exact World.block_lt_of_cell? _ _ hc)).trans hc
          have x1 : ((i : Nat) : Int).tmod ((rl : Nat) : Int) = (q : Nat) := by rw [hl.out, HQ.out, Int.tmod_eq_emod_of_nonneg (by omega)]; exact (Int.natCast_emod _ _).symm ▸ rfl
          have x2 : ((i : Nat) : Int).tdiv ((rl : Nat) : Int) = (d : Nat) := by rw [hl.out, HD.out, Int.tdiv_eq_ediv_of_nonneg (by omega)]; exact (Int.natCast_ediv _ _).symm ▸ rfl
          have x00 : ¬ rl = 0 := by have := hl.out; omega
          have x0 : ¬ ((rl : Nat) : Int) = 0 := by have := hl.out; omega
          have hdi : d ≤ i := by rw [HD.out]; exact Nat.div_le_self _ _
          have x5 : IntKind.i64.wrap ((d : Nat) : Int) = (d : Int) := by rw [IntKind.wrap_i64]; have := HLT.out; omega
          have y1 : (0 : Int) ≤ (q : Int) := by omega
          have y2 : (q : Int) < (rl : Int) := by have := hl.out; omega
          obtain ⟨Y, HY⟩ : ∃ Y : F, Hid (rndF Rd i = Y) := ⟨_, rfl⟩
          obtain ⟨D8, HD8⟩ : ∃ z : Int, Hid (IntKind.u8.wrap ((d : Nat) : Int) = z) := ⟨_, rfl⟩
          have x3 : IntKind.u8.wrap ((d : Nat) : Int) = D8 := HD8.out
          have x4 : IntKind.u8.wrap (((X.1 : Nat) : Int) + D8) = ((Y.1 : Nat) : Int) := by rw [← HD8.out, rndF_some Rd i q d X hz HQ.out HD.out HX.out, HY.out]
          have z0 : (((rl : Nat) : Int) == 0) = false := by rw [beq_eq_false_iff_ne]; exact x0
          clear hdi hq hr
          go_upto_region 10 with fail
          have hS0 : Below wr.heap.size wr wr.drew := (Below.refl _ _).drew
          refine wp_region_noPanic ?_
          refine wp_region_till (fun u => Below wr.heap.size wr u) 18 (by kernel_rfl) (by decide) (by decide +kernel) (by decide +kernel) (by decide +kernel) (fun inv => ?_)
          refine till_at 0 34 (u4) inv rfl rfl (by decide) (by decide +kernel) (by decide +kernel) (fun _ _ _ h => h) hS0 (Or.inl ⟨by rfl, fun w' hS' => by obtain ⟨p1, p2⟩ := HCX.out _ hS'; go_simp⟩) (fun inv' => ?_)
          clear inv; have inv := inv'; clear inv'
          try simp only [List.setIfInBounds_toArray, List.set_cons_zero, List.set_cons_succ]
          refine till_at 1 35 (.pointer (some ⟨M, 5, none⟩)) inv rfl rfl (by decide) (by decide +kernel) (by decide +kernel) (fun _ _ _ h => h) hS0 (Or.inl ⟨by rfl, fun w' hS' => by obtain ⟨p1, p2⟩ := HCX.out _ hS'; go_simp⟩) (fun inv' => ?_)
          clear inv; have inv := inv'; clear inv'
          try simp only [List.setIfInBounds_toArray, List.set_cons_zero, List.set_cons_succ]
          refine till_at 2 36 (.slice (some ⟨rb, ro, none⟩) rl rc) inv rfl rfl (by decide) (by decide +kernel) (by decide +kernel) (fun _ _ _ h => h) hS0 (Or.inl ⟨by rfl, fun w' hS' => by obtain ⟨p1, p2⟩ := HCX.out _ hS'; go_simp⟩) (fun inv' => ?_)
          clear inv; have inv := inv'; clear inv'
          try simp only [List.setIfInBounds_toArray, List.set_cons_zero, List.set_cons_succ]
          refine till_at 3 37 (.int .i64 (i : Nat)) inv rfl rfl (by decide) (by decide +kernel) (by decide +kernel) (fun _ _ _ h => h) hS0 (Or.inl ⟨by rfl, fun w' hS' => by obtain ⟨p1, p2⟩ := HCX.out _ hS'; go_simp⟩) (fun inv' => ?_)
          clear inv; have inv := inv'; clear inv'
          try simp only [List.setIfInBounds_toArray, List.set_cons_zero, List.set_cons_succ]
          refine till_at 4 38 (.pointer (some ⟨M, 5, none⟩)) inv rfl rfl (by decide) (by decide +kernel) (by decide +kernel) (fun _ _ _ h => h) hS0 (Or.inl ⟨by rfl, fun w' hS' => by obtain ⟨p1, p2⟩ := HCX.out _ hS'; go_simp⟩) (fun inv' => ?_)
          clear inv; have inv := inv'; clear inv'
          try simp only [List.setIfInBounds_toArray, List.set_cons_zero, List.set_cons_succ]
          refine till_at 5 39 (.slice (some ⟨rb, ro, none⟩) rl rc) inv rfl rfl (by decide) (by decide +kernel) (by decide +kernel) (fun _ _ _ h => h) hS0 (Or.inl ⟨by rfl, fun w' hS' => by obtain ⟨p1, p2⟩ := HCX.out _ hS'; go_simp⟩) (fun inv' => ?_)
          clear inv; have inv := inv'; clear inv'
          try simp only [List.setIfInBounds_toArray, List.set_cons_zero, List.set_cons_succ]
          refine till_at 6 40 (.int .i64 (rl : Nat)) inv rfl rfl (by decide) (by decide +kernel) (by decide +kernel) (fun _ _ _ h => h) hS0 (Or.inl ⟨by rfl, fun w' hS' => by obtain ⟨p1, p2⟩ := HCX.out _ hS'; go_simp⟩) (fun inv' => ?_)
          clear inv; have inv := inv'; clear inv'
          try simp only [List.setIfInBounds_toArray, List.set_cons_zero, List.set_cons_succ]
          refine till_at 7 41 (.int .i64 (q : Nat)) inv rfl rfl (by decide) (by decide +kernel) (by decide +kernel) (fun _ _ _ h => h) hS0 (Or.inl ⟨by rfl, fun w' hS' => by obtain ⟨p1, p2⟩ := HCX.out _ hS'; go_simp⟩) (fun inv' => ?_)
          clear inv; have inv := inv'; clear inv'
          try simp only [List.setIfInBounds_toArray, List.set_cons_zero, List.set_cons_succ]
          refine till_at 8 42 (.pointer (some ⟨rb, ro + q, none⟩)) inv rfl rfl (by decide) (by decide +kernel) (by decide +kernel) (fun _ _ _ h => h) hS0 (Or.inl ⟨by rfl, fun w' hS' => by obtain ⟨p1, p2⟩ := HCX.out _ hS'; go_simp⟩) (fun inv' => ?_)
          clear inv; have inv := inv'; clear inv'
          try simp only [List.setIfInBounds_toArray, List.set_cons_zero, List.set_cons_succ]
          refine till_at 9 43 (.int .u8 (X.1 : Nat)) inv rfl rfl (by decide) (by decide +kernel) (by decide +kernel) (fun _ _ _ h => h) hS0 (Or.inl ⟨by rfl, fun w' hS' => by obtain ⟨p1, p2⟩ := HCX.out _ hS'; go_simp⟩) (fun inv' => ?_)
          clear inv; have inv := inv'; clear inv'
          try simp only [List.setIfInBounds_toArray, List.set_cons_zero, List.set_cons_succ]
          refine till_at 10 44 (.int .i64 (i : Nat)) inv rfl rfl (by decide) (by decide +kernel) (by decide +kernel) (fun _ _ _ h => h) hS0 (Or.inl ⟨by rfl, fun w' hS' => by obtain ⟨p1, p2⟩ := HCX.out _ hS'; go_simp⟩) (fun inv' => ?_)
          clear inv; have inv := inv'; clear inv'
          try simp only [List.setIfInBounds_toArray, List.set_cons_zero, List.set_cons_succ]
          refine till_at 11 45 (.pointer (some ⟨M, 5, none⟩)) inv rfl rfl (by decide) (by decide +kernel) (by decide +kernel) (fun _ _ _ h => h) hS0 (Or.inl ⟨by rfl, fun w' hS' => by obtain ⟨p1, p2⟩ := HCX.out _ hS'; go_simp⟩) (fun inv' => ?_)
          clear inv; have inv := inv'; clear inv'
          try simp only [List.setIfInBounds_toArray, List.set_cons_zero, List.set_cons_succ]
          refine till_at 12 46 (.slice (some ⟨rb, ro, none⟩) rl rc) inv rfl rfl (by decide) (by decide +kernel) (by decide +kernel) (fun _ _ _ h => h) hS0 (Or.inl ⟨by rfl, fun w' hS' => by obtain ⟨p1, p2⟩ := HCX.out _ hS'; go_simp⟩) (fun inv' => ?_)
          clear inv; have inv := inv'; clear inv'
          try simp only [List.setIfInBounds_toArray, List.set_cons_zero, List.set_cons_succ]
          refine till_at 13 47 (.int .i64 (rl : Nat)) inv rfl rfl (by decide) (by decide +kernel) (by decide +kernel) (fun _ _ _ h => h) hS0 (Or.inl ⟨by rfl, fun w' hS' => by obtain ⟨p1, p2⟩ := HCX.out _ hS'; go_simp⟩) (fun inv' => ?_)
          clear inv; have inv := inv'; clear inv'
          try simp only [List.setIfInBounds_toArray, List.set_cons_zero, List.set_cons_succ]
          refine till_at 14 48 (.int .i64 (d : Nat)) inv rfl rfl (by decide) (by decide +kernel) (by decide +kernel) (fun _ _ _ h => h) hS0 (Or.inl ⟨by rfl, fun w' hS' => by obtain ⟨p1, p2⟩ := HCX.out _ hS'; go_simp⟩) (fun inv' => ?_)
          clear inv; have inv := inv'; clear inv'
          try simp only [List.setIfInBounds_toArray, List.set_cons_zero, List.set_cons_succ]
          refine till_at 15 49 (.int .u8 D8) inv rfl rfl (by decide) (by decide +kernel) (by decide +kernel) (fun _ _ _ h => h) hS0 (Or.inl ⟨by rfl, fun w' hS' => by obtain ⟨p1, p2⟩ := HCX.out _ hS'; go_simp⟩) (fun inv' => ?_)
          clear inv; have inv := inv'; clear inv'
          try simp only [List.setIfInBounds_toArray, List.set_cons_zero, List.set_cons_succ]
          refine till_at 16 50 (.int .u8 (Y.1 : Nat)) inv rfl rfl (by decide) (by decide +kernel) (by decide +kernel) (fun _ _ _ h => h) hS0 (Or.inl ⟨by rfl, fun w' hS' => by obtain ⟨p1, p2⟩ := HCX.out _ hS'; go_simp⟩) (fun inv' => ?_)
          clear inv; have inv := inv'; clear inv'
          try simp only [List.setIfInBounds_toArray, List.set_cons_zero, List.set_cons_succ]
          refine till_head (i := 17) inv (by decide +kernel) (by decide) rfl (fun KK hK => ?_)
          go_simp
          obtain ⟨wa, hwa⟩ : ∃ u, u = (wr.alloc (.cells #[.int .u8 (Y.1 : Nat)] 5)).drew := ⟨_, rfl⟩
          have HSA : Hid (Below wr.heap.size wr wa ∧ ∀ (j : Nat) (u : Value), [Value.int .u8 (Y.1 : Nat)][j]? = some u → wa.cell? ((⟨wr.heap.size, 0, none⟩ : Addr).add j) = some u) := by
            rw [hwa]
            exact ⟨((Below.refl _ _).alloc (Nat.le_refl _) _).drew, one_cell wr _ 5⟩
          try rw [← hwa]
          clear hwa
          skip
          refine hK.out _ _ (HSA.out.1) (fun inv' => ?_)
          clear hK KK inv; have inv := inv'; clear inv'
          try simp only [List.setIfInBounds_toArray, List.set_cons_zero, List.set_cons_succ]
          refine till_tail (i := 18) (by decide +kernel) (by decide) rfl (fun KK hK => ?_)
          rw [if_pos (by rfl)]
          refine wp_append_own _ (.tmp 34) (.tmp 51) 23 rfl (M + 1) 5 i0 (.int .u8 0) 1 1 Tryd.underlying23 HI0.out.1 HI0.out.2.1 HI0.out.2.2.1 HI0.out.2.2.2 rfl (by decide) _ i _ rfl (own_below HI.out.1 HSA.out.1) ⟨wr.heap.size, 0, none⟩ 1 1 [.int .u8 (Y.1 : Nat)] rfl rfl HSA.out.2 (one_u8 _) (by have := HLT.out; unfold maxLen; omega) (by have := HLT.out; omega) (by have := HLT.out; have := HSA.out.1.size; omega) ?_
          intro v4 w4 hown hgrow hnil
          have H4 : Hid (w4.ownsRow (M + 1) 5 1 v4 (i + 1) (fc (rndL Rd (i + 1))) ∧ Below (M + 1) w1 w4) := ⟨by rw [rndL_succ, fc_append, HY.out]; exact hown, (HI.out.2.trans (HSA.out.1.mono HLT.out.2.1)).grown hgrow (by have := HLT.out; have := HSA.out.1.size; omega) (fun q hq => (HI.out.1.lt q hq).1)⟩
          clear hown hgrow hnil
          refine hK.out _ _ ?_
          clear hK KK
          try simp only [List.setIfInBounds_toArray, List.set_cons_zero, List.set_cons_succ]
          refine till_tail (i := 19) (by decide +kernel) (by decide) rfl (fun KK hK => ?_)
          rw [if_pos (by rfl)]
          go_simp
          refine hK.out _ _ ?_
          clear hK KK
          try simp only [List.setIfInBounds_toArray, List.set_cons_zero, List.set_cons_succ]
          refine till_done (by decide +kernel) ?_ _
          refine NoPanic.normal ?_
          go_wp2
          go_roundw
          case rel => exact ⟨i + 1, by have := HLT.out; omega, rfl, H4.out⟩
          case measure => simp [intOf]; have := HLT.out; omega
      · have hin : i = N := by omega
        subst hin
        have g1 : ¬ (i : Int) < (i : Int) := by omega
        have HF : Hid (Vf wr u4 (rndL Rd i) ∧ Below M w wr) := ⟨own_zi HI.out.1 (rndL_len _ _), H1.out.2.1.trans (HI.out.2.mono (by omega))⟩
        go_wp2
        go_ret
        exact ⟨_, rfl, HF.out.1, HF.out.2⟩
end Go.Proofs.YtinmhgackihakaaDoor
namespace Go.Proofs.YtinmhgackihakaaDoor
open Go.RowKit
set_option linter.unusedVariables false
set_option linter.unusedSimpArgs false
set_option maxRecDepth 100000
/-- What a sharing's call answers: the error's number, how many lines, which. -/
def dealE (s : Nat) (nd ct : Int) (r : Nat) : Int := if mayN s nd ct ≠ 0 then mayN s nd ct else if (r : Int) ≠ rnd nd s then 5 else 0
def dealC (s : Nat) (nd ct : Int) (r : Nat) : Nat := if dealE s nd ct r = 0 then ct.toNat else 0
def dealT (sn : Nat) (l R : List F) (nd : Nat) : Nat → ByteArray := lineT (fN (sn / 256)) (fN (sn % 256)) (fN nd) (fN l.length) l.length R (rowS (fN (sn / 256)) (fN (sn % 256)) l) (l.length + 4) nd
/-- Texts, of a list without spare room; of a list with some. -/
def TxA (w : World) (v : Value) (n : Nat) (T : Nat → ByteArray) (M : Nat) : Prop := (n = 0 ∧ v = .slice none 0 0) ∨ ∃ g, v = .slice (some ⟨g, 0, none⟩) n n ∧ M ≤ g ∧ Bx w g 9 (tcs T n)
def TxR (w : World) (v : Value) (n : Nat) (T : Nat → ByteArray) (M : Nat) : Prop := (n = 0 ∧ v = .slice none 0 0) ∨ ∃ g c, v = .slice (some ⟨g, 0, none⟩) n c ∧ M ≤ g ∧ g < w.heap.size ∧ ∀ i, i < n → w.cell? ⟨g, i, none⟩ = some (.string (T i))
def DaQ (er : Int) (n : Nat) (T : Nat → ByteArray) (M : Nat) (e : Ending) (w w' : World) : Prop := ∃ v, e = .returned (.tuple #[v, .int .i64 er]) ∧ TxA w' v n T M ∧ Below M w w'
def DrQ (er : Int) (n : Nat) (T : Nat → ByteArray) (M : Nat) (e : Ending) (w w' : World) : Prop := ∃ v, e = .returned (.tuple #[v, .int .i64 er]) ∧ TxR w' v n T M ∧ Below M w w'
theorem TxA.below {w w' : World} {v : Value} {n M : Nat} {T : Nat → ByteArray} (h : TxA w v n T M) (hb : Below w.heap.size w w') : TxA w' v n T M := by
  rcases h with h | ⟨g, e, h1, h2⟩
  · exact .inl h
  · exact .inr ⟨g, e, h1, h2.below hb⟩
theorem TxR.kept {w w' : World} {v : Value} {n M : Nat} {T : Nat → ByteArray} (h : TxR w v n T M) (hs : w.heap.size ≤ w'.heap.size) (hb : ∀ g, M ≤ g → g < w.heap.size → w'.heap[g]? = w.heap[g]?) : TxR w' v n T M := by
  rcases h with h | ⟨g, c, e, h1, h2, h3⟩
  · exact .inl h
  · exact .inr ⟨g, c, e, h1, by omega, fun i hi => by rw [World.cell?_of_block (w := w) (hb g h1 h2)]; exact h3 i hi⟩
theorem TxA.kept {w w' : World} {v : Value} {n M : Nat} {T : Nat → ByteArray} (h : TxA w v n T M) (hb : ∀ g, M ≤ g → g < w.heap.size → w'.heap[g]? = w.heap[g]?) : TxA w' v n T M := by
  rcases h with h | ⟨g, e, h1, h2⟩
  · exact .inl h
  · exact .inr ⟨g, e, h1, h2.keep (hb g h1 h2.lt)⟩
theorem may_cases (s : Nat) (nd ct : Int) (h : mayN s nd ct = 0) : 1 ≤ s ∧ s ≤ 64 ∧ 1 ≤ nd ∧ nd ≤ 16 ∧ nd ≤ ct ∧ ct ≤ 255 := by
  unfold mayN at h
  split at h
  · split at h
    · omega
    · omega
  · omega
theorem sn_parts (sn : Nat) (h : sn < 65536) : (fN (sn / 256)).1 * 256 + (fN (sn % 256)).1 = sn := by
  rw [fN_val _ (by omega), fN_val _ (by omega)]
  omega
theorem vf_rw {w : World} {a : Option Addr} {n c : Nat} {l : List F} (h : Vf w (.slice a n c) l) : n = l.length ∧ n ≤ c ∧ c ≤ maxLen ∧ (∀ i, i < l.length → ∃ rb ro, a = some ⟨rb, ro, none⟩ ∧ w.cell? ⟨rb, ro + i, none⟩ = some (.int .u8 ((l.getD i 0).1 : Nat))) ∧ (1 ≤ l.length → ∃ rb ro, a = some ⟨rb, ro, none⟩ ∧ Rw w rb ro l) := by
  obtain ⟨a', c', e, h1, h2, h3, h4⟩ := h.parts
  injection e with e1 e2 e3
  subst e1 e3 e2
  refine ⟨rfl, h1, h2, fun i hi => ?_, fun hl => ?_⟩
  · rcases h4 with h4 | ⟨b, off, e, h5⟩
    · rw [h4] at hi; simp at hi
    · exact ⟨b, off, e, h5 i hi⟩
  · rcases h4 with h4 | h4
    · rw [h4] at hl; simp at hl
    · exact h4
theorem deal_any (sn : Nat) (hsn : sn < 65536) (nd ct : Int) (sv rv : Value) (l R : List F) (w : World) (hT : Tables w) (h : Vf w sv l) (hr : Vf w rv R) : Calls Tryd.prog 9 #[.int .u16 (sn : Nat), sv, .int .i64 nd, .int .i64 ct, rv] w fun e w' => DaQ (dealE l.length nd ct R.length) (dealC l.length nd ct R.length) (dealT sn l R nd.toNat) w.heap.size e w w' := by
  obtain ⟨a, c, rfl, _⟩ := h.parts
  obtain ⟨ra, rc, rfl, _⟩ := hr.parts
  by_cases hm : mayN l.length nd ct = 0
  · obtain ⟨h1, h2, h3, h4, h5, h6⟩ := may_cases _ _ _ hm
    by_cases hq : (R.length : Int) = rnd nd l.length
    · have hE : dealE l.length nd ct R.length = 0 := by unfold dealE; rw [if_neg (by omega), if_neg (by omega)]
      have hC : dealC l.length nd ct R.length = ct.toNat := by unfold dealC; rw [if_pos hE]
      rw [hC, hE]
      obtain ⟨_, hc1, hc2, _, hb⟩ := vf_rw h
      obtain ⟨b, off, rfl, hrw⟩ := hb h1
      obtain ⟨_, _, _, hcell, _⟩ := vf_rw hr
      obtain ⟨ndN, rfl⟩ : ∃ k : Nat, nd = (k : Int) := ⟨nd.toNat, by omega⟩
      obtain ⟨ctN, rfl⟩ : ∃ k : Nat, ct = (k : Int) := ⟨ct.toNat, by omega⟩
      have hlen : R.length = (ndN - 1) * (l.length + 4) := by
        unfold rnd at hq
        rw [if_pos (by omega)] at hq
        rw [← Int.natCast_inj, hq, Int.natCast_mul]
        congr 1
        omega
      simp only [Int.toNat_natCast]
      refine (deal_good sn ndN ctN l.length b off c ra R.length rc (fN (sn / 256)) (fN (sn % 256)) (fN ndN) (fN l.length) l R w (sn_parts sn hsn) (show _ ∧ _ ∧ _ from ⟨rfl, h1, h2⟩) (show _ ∧ _ ∧ _ ∧ _ from ⟨by omega, by omega, by omega, by omega⟩) (fN_val _ (by omega)) (fN_val _ (by omega)) (show _ ∧ _ from ⟨hc1, hc2⟩) hrw (show _ ∧ _ from ⟨hlen, rfl⟩) hcell hT).mono fun e w' hh => ?_
      obtain ⟨g, rfl, q1, q2, q3⟩ := hh.out
      exact ⟨_, rfl, .inr ⟨g, rfl, q1, q2⟩, q3⟩
    · have hE : dealE l.length nd ct R.length = 5 := by unfold dealE; rw [if_neg (by omega), if_pos hq]
      have hC : dealC l.length nd ct R.length = 0 := by unfold dealC; rw [if_neg (by omega)]
      rw [hC, hE]
      refine (deal_short _ a ra _ c _ rc nd ct (show _ ∧ _ from ⟨hm, hq⟩) w).mono fun e w' hh => ?_
      obtain ⟨rfl, rfl⟩ := hh
      exact ⟨_, rfl, .inl ⟨rfl, rfl⟩, Below.refl _ _⟩
  · have hE : dealE l.length nd ct R.length = mayN l.length nd ct := by unfold dealE; rw [if_pos hm]
    have hC : dealC l.length nd ct R.length = 0 := by unfold dealC; rw [if_neg (by rw [hE]; exact hm)]
    rw [hC, hE]
    refine (deal_bad _ a ra _ c _ rc nd ct hm w).mono fun e w' hh => ?_
    obtain ⟨rfl, rfl⟩ := hh
    exact ⟨_, rfl, .inl ⟨rfl, rfl⟩, Below.refl _ _⟩
end Go.Proofs.YtinmhgackihakaaDoor
namespace Go.Proofs.YtinmhgackihakaaDoor
open Go.RowKit
set_option linter.unusedVariables false
set_option linter.unusedSimpArgs false
set_option maxRecDepth 100000
theorem jr_all {T : Nat → ByteArray} {n k : Nat} (hg : ∀ i, i < n → ∃ d, MGood (T i) (gR (T i)) d) (h : JrP T n k) : JnP (fun i => gR (T i)) n k := by
  rcases h with ⟨b, hb, _, hk⟩ | ⟨_, h⟩
  · obtain ⟨d, hd⟩ := hg b hb
    exact (bad_good hk hd).elim
  · exact h
theorem jn_not {R : Nat → List F} {n k : Nat} (h : JnP R n k) (g : JgP R n) : False := by
  obtain ⟨h0, h1, h2, h3, h4, h5⟩ := g
  rcases h with h | h | h | h | h
  · omega
  · exact h.1 h1
  · exact h2 h.2.1
  · have := h.2.2.2.1; omega
  · exact h.2.2.2.2.1 ⟨h4, h5⟩
/-- Lines that are mended to shares of a sharing. -/
structure Lns (z : Shg) (T : Nat → ByteArray) (n : Nat) (X : Nat → F) : Prop where
  ok : z.ok
  good : ∀ i, i < n → ∃ d, MGood (T i) (z.at' (X i)) d
  lo : ∀ i, i < n → 1 ≤ (X i).1
theorem Lns.eq {z : Shg} {T : Nat → ByteArray} {n : Nat} {X : Nat → F} (h : Lns z T n X) (i : Nat) (hi : i < n) : gR (T i) = z.at' (X i) := by
  obtain ⟨d, hd⟩ := h.good i hi
  exact gR_eq hd
theorem Lns.all {z : Shg} {T : Nat → ByteArray} {n : Nat} {X : Nat → F} (h : Lns z T n X) : ∀ i, i < n → ∃ d, MGood (T i) (gR (T i)) d := fun i hi => by rw [h.eq i hi]; exact h.good i hi
theorem Lns.ofs {z : Shg} {T : Nat → ByteArray} {n : Nat} {X : Nat → F} (h : Lns z T n X) : Ofs z (fun i => gR (T i)) n X := ⟨h.ok, fun i hi => h.eq i hi, h.lo⟩
/-- As many shares as are needed give it back. -/
theorem Lns.join {z : Shg} {T : Nat → ByteArray} {n M : Nat} {X : Nat → F} {e : Ending} {w w' : World} (h : Lns z T n X) (hn : z.bn.1 ≤ onN (fun i => gR (T i)) n) (hj : JoQ T n M e w w') :
    ∃ g, e = .returned (.tuple #[.slice (some ⟨g, 0, none⟩) z.l.length z.l.length, .int .i64 0]) ∧ M ≤ g ∧ Bx w' g 5 (fc z.l) ∧ Below M w w' := by
  obtain ⟨⟨k, hk, _⟩ | ⟨_, _, g, he, hg, hb⟩, hbl⟩ := hj
  · exact (jn_not (jr_all h.all hk) (h.ofs.good hn)).elim
  · have h0 := h.ofs.pos hn
    rw [h.eq 0 h0, z.at_4, h.ok.size] at he
    rw [h.eq 0 h0, z.at_4, z.at_2, h.ok.size, h.ofs.gives hn] at hb
    exact ⟨g, he, hg, hb, hbl⟩
theorem Lns.few {z : Shg} {T : Nat → ByteArray} {n M : Nat} {X : Nat → F} {e : Ending} {w w' : World} (h : Lns z T n X) (hn : onN (fun i => gR (T i)) n < z.bn.1) (hj : JoQ T n M e w w') :
    e = .returned (.tuple #[.slice none 0 0, .int .i64 114]) ∧ Below M w w' := by
  obtain ⟨⟨k, hk, he⟩ | ⟨_, hg, _⟩, hbl⟩ := hj
  · have := (h.ofs.few hn).2 k (jr_all h.all hk)
    subst this
    exact ⟨he, hbl⟩
  · exact ((h.ofs.few hn).1 hg).elim
theorem Lns.ext {z : Shg} {T : Nat → ByteArray} {n M : Nat} {X : Nat → F} {e : Ending} {w w' : World} (h : Lns z T n X) (hn : z.bn.1 ≤ onN (fun i => gR (T i)) n) (x : F) (hx : 1 ≤ x.1) (hj : ExQ x.1 T n M e w w') :
    e = .returned (.tuple #[.string (WLs (z.at' x)), .int .i64 0]) ∧ Below M w w' := by
  obtain ⟨⟨h1, _⟩ | ⟨_, _, k, hk, _⟩ | ⟨_, _, X', hX, he⟩, hbl⟩ := hj
  · exfalso
    have := x.2
    omega
  · exact (jn_not (jr_all h.all hk) (h.ofs.good hn)).elim
  · have hXx : X' = x := Fin.ext (by omega)
    subst hXx
    refine ⟨?_, hbl⟩
    rw [he]
    congr 4
    have h0 := h.ofs.pos hn
    unfold exL Shg.at' valsL
    dsimp only
    rw [h.eq 0 h0, z.at_0, z.at_1, z.at_2, z.at_4, h.ok.size]
    refine congrArg (fun vs => Value.string (WLs (fullL z.b0 z.b1 z.bn X' z.bs z.l.length vs))) (List.map_congr_left fun v hv => ?_)
    rw [h.ofs.ft hn v (List.mem_range.1 hv)]
    rfl
/-- The sharing that Deal makes. -/
def shD (sn : Nat) (l R : List F) (nd : Nat) : Shg := ⟨fN (sn / 256), fN (sn % 256), fN nd, fN l.length, l, R⟩
theorem shD_ok (sn : Nat) (l R : List F) (nd : Nat) (h1 : 1 ≤ l.length) (h2 : l.length ≤ 64) (h3 : 1 ≤ nd) (h4 : nd ≤ 16) : (shD sn l R nd).ok :=
  ⟨fN_val _ (by omega), h1, h2, by show 1 ≤ (fN nd).1; rw [fN_val _ (by omega)]; exact h3, by show (fN nd).1 ≤ 16; rw [fN_val _ (by omega)]; exact h4⟩
theorem dealT_at (sn : Nat) (l R : List F) (nd i : Nat) (h : nd ≤ 16) : dealT sn l R nd i = WLs ((shD sn l R nd).at' (fN (i + 1))) := by
  unfold dealT lineT Shg.at' shD
  simp only [fN_val nd (by omega)]
  rfl
theorem Shg.good {z : Shg} (h : z.ok) (x : F) (hx : 1 ≤ x.1) : MGood (WLs (z.at' x)) (z.at' x) 0 := self_good _ (Shg.okR h x hx) (z.zero x)
end Go.Proofs.YtinmhgackihakaaDoor
namespace Go.Proofs.YtinmhgackihakaaDoor
set_option linter.unusedVariables false
set_option linter.unusedSimpArgs false
set_option maxRecDepth 100000
/-- Newton's differences. -/
def ddF (x y : Nat → F) : Nat → Nat → F
  | 0, a => y a
  | k + 1, a => fm (fa (ddF x y k (a + 1)) (ddF x y k a)) (invF (fa (x (a + k + 1)) (x a)))
def prF (x : Nat → F) (a : Nat) (z : F) : Nat → F
  | 0 => 1
  | k + 1 => fm (prF x a z k) (fa z (x (a + k)))
/-- Newton's form through k + 1 points from number a on. -/
def nwF (x y : Nat → F) (a : Nat) (z : F) : Nat → F
  | 0 => y a
  | k + 1 => fa (nwF x y a z k) (fm (ddF x y (k + 1) a) (prF x a z (k + 1)))
theorem pr_head (x : Nat → F) (a : Nat) (z : F) : ∀ k, prF x a z (k + 1) = fm (fa z (x a)) (prF x (a + 1) z k)
  | 0 => by
    show fm 1 (fa z (x (a + 0))) = fm _ 1
    rw [fm_comm, Nat.add_zero]
  | k + 1 => by
    show fm (prF x a z (k + 1)) (fa z (x (a + (k + 1)))) = fm _ (fm (prF x (a + 1) z k) (fa z (x (a + 1 + k))))
    rw [pr_head x a z k, fm_assoc, show a + (k + 1) = a + 1 + k by omega]
theorem dd_step (x y : Nat → F) (k a : Nat) (h : x (a + k + 1) ≠ x a) : fm (ddF x y (k + 1) a) (fa (x (a + k + 1)) (x a)) = fa (ddF x y k (a + 1)) (ddF x y k a) := by
  show fm (fm _ (invF _)) _ = _
  rw [fm_assoc, fm_comm (invF _), invF_mul _ (fa_ne h), fm_one]
theorem fa_add3 (a b c : F) : fa (fa a b) (fa c b) = fa a c := by rw [fa_mid, fa_self, fa_zero]
theorem alg_a (E E2 W z u v : F) : fa (fm (fm E (fa u v)) W) (fa (fm E2 (fm W (fa z u))) (fm E (fm (fa z v) W))) = fm (fa E2 E) (fm W (fa z u)) := by
  rw [fm_assoc E (fa u v) W, fa_left, ← fm_fa E, ← fa_fm (fa u v) (fa z v) W, fa_add3 u v z, fm_comm (fa u z) W, fa_comm u z, ← fa_fm E2 E]
theorem alg_c (d p s V : F) : fa (fm d p) (fm (fm p s) V) = fm p (fa (fm V s) d) := by
  rw [fm_fa p (fm V s) d, fm_comm V s, ← fm_assoc, fa_comm, fm_comm p d]
theorem mul4 (E s W t : F) : fm (fm E (fm s W)) t = fm s (fm (fm E t) W) := by
  rw [fm_comm E (fm s W), fm_assoc, fm_assoc, fm_comm W]
theorem alg_b {p q E D W z u v : F} (e0 : fm E (fa u v) = D) (es : fa q p = fm D W) : fm (fa p (fm E (fm (fa z v) W))) (fa u v) = fa (fm (fa z v) q) (fm (fa z u) p) := by
  rw [fa_fm, mul4, e0, ← es, fm_fa (fa z v) q p, fa_left, fm_comm p (fa u v), ← fa_fm, fa_add3, fa_comm u z]
theorem nw_star (x y : Nat → F) (z : F) : ∀ k a, (∀ i j, a ≤ i → i < j → j ≤ a + k + 1 → x j ≠ x i) → fa (nwF x y (a + 1) z k) (nwF x y a z k) = fm (fa (ddF x y k (a + 1)) (ddF x y k a)) (prF x (a + 1) z k)
  | 0, a, _ => by
    show fa (y (a + 1)) (y a) = fm (fa (y (a + 1)) (y a)) 1
    rw [fm_one]
  | k + 1, a, h => by
    have ih := nw_star x y z k a fun i j h1 h2 h3 => h i j h1 h2 (by omega)
    have e0 := dd_step x y k a (h a (a + k + 1) (Nat.le_refl _) (by omega) (by omega))
    show fa (fa (nwF x y (a + 1) z k) (fm (ddF x y (k + 1) (a + 1)) (prF x (a + 1) z (k + 1)))) (fa (nwF x y a z k) (fm (ddF x y (k + 1) a) (prF x a z (k + 1)))) = fm (fa (ddF x y (k + 1) (a + 1)) (ddF x y (k + 1) a)) (prF x (a + 1) z (k + 1))
    rw [fa_mid, ih, ← e0, pr_head x a z k]
    have e1 : prF x (a + 1) z (k + 1) = fm (prF x (a + 1) z k) (fa z (x (a + k + 1))) := by
      show fm _ (fa z (x (a + 1 + k))) = _
      rw [show a + 1 + k = a + k + 1 by omega]
    rw [e1]
    generalize ddF x y (k + 1) a = E
    generalize ddF x y (k + 1) (a + 1) = E2
    generalize prF x (a + 1) z k = W
    generalize x (a + k + 1) = u
    generalize x a = v
    exact alg_a E E2 W z u v
theorem nw_neville (x y : Nat → F) (z : F) (k a : Nat) (h : ∀ i j, a ≤ i → i < j → j ≤ a + k + 1 → x j ≠ x i) : fm (nwF x y a z (k + 1)) (fa (x (a + k + 1)) (x a)) = fa (fm (fa z (x a)) (nwF x y (a + 1) z k)) (fm (fa z (x (a + k + 1))) (nwF x y a z k)) := by
  have e0 := dd_step x y k a (h a (a + k + 1) (Nat.le_refl _) (by omega) (by omega))
  have es := nw_star x y z k a h
  show fm (fa (nwF x y a z k) (fm (ddF x y (k + 1) a) (prF x a z (k + 1)))) _ = _
  rw [pr_head x a z k]
  exact alg_b e0 es
/-- Newton's form goes through its points. -/
theorem nw_at (x y : Nat → F) : ∀ k a, (∀ i j, a ≤ i → i < j → j ≤ a + k → x j ≠ x i) → ∀ j, j ≤ k → nwF x y a (x (a + j)) k = y (a + j)
  | 0, a, _, j, hj => by
    obtain rfl : j = 0 := by omega
    rfl
  | k + 1, a, h, j, hj => by
    have hn := nw_neville x y (x (a + j)) k a h
    have hd : fa (x (a + k + 1)) (x a) ≠ 0 := fa_ne (h a (a + k + 1) (Nat.le_refl _) (by omega) (by omega))
    refine fm_canc hd ?_
    rw [hn]
    by_cases h0 : j = 0
    · subst h0
      have e := nw_at x y k a (fun i j h1 h2 h3 => h i j h1 h2 (by omega)) 0 (Nat.zero_le _)
      rw [e, Nat.add_zero, fa_self, zero_fm, zero_fa, fm_comm, fa_comm]
    · by_cases h1 : j = k + 1
      · subst h1
        have e := nw_at x y k (a + 1) (fun i j h1 h2 h3 => h i j (by omega) h2 (by omega)) k (Nat.le_refl _)
        rw [show a + 1 + k = a + (k + 1) by omega] at e
        rw [e, show a + k + 1 = a + (k + 1) by omega, fa_self, zero_fm, fa_zero, fm_comm]
      · have e1 := nw_at x y k a (fun i j h1 h2 h3 => h i j h1 h2 (by omega)) j (by omega)
        have e2 := nw_at x y k (a + 1) (fun i j h1 h2 h3 => h i j (by omega) h2 (by omega)) (j - 1) (by omega)
        rw [show a + 1 + (j - 1) = a + j by omega] at e2
        rw [e1, e2, ← fa_fm, fm_comm, show fa (fa (x (a + j)) (x a)) (fa (x (a + j)) (x (a + k + 1))) = fa (x (a + k + 1)) (x a) from by rw [fa_comm (x (a + j)) (x a), fa_comm (x (a + j)) (x (a + k + 1)), fa_add3, fa_comm]]
/-- The table between two rounds. -/
def dst (x y : Nat → F) (k q : Nat) : F := if q < k then ddF x y q 0 else ddF x y k (q - k)
theorem dst_0 (x y : Nat → F) (q : Nat) : dst x y 0 q = y q := by unfold dst; rw [if_neg (Nat.not_lt_zero q)]; rfl
theorem dst_low (x y : Nat → F) (k q : Nat) (h : q < k + 1) : dst x y (k + 1) q = dst x y k q := by
  unfold dst
  rw [if_pos h]
  by_cases h1 : q < k
  · rw [if_pos h1]
  · obtain rfl : q = k := by omega
    rw [if_neg h1, Nat.sub_self]
theorem dst_step (x y : Nat → F) (k i : Nat) (h : k + 1 ≤ i) : dst x y (k + 1) i = fm (fa (dst x y k i) (dst x y k (i - 1))) (invF (fa (x i) (x (i - (k + 1))))) := by
  unfold dst
  rw [if_neg (by omega), if_neg (by omega), if_neg (by omega)]
  show fm (fa (ddF x y k (i - (k + 1) + 1)) (ddF x y k (i - (k + 1)))) (invF (fa (x (i - (k + 1) + k + 1)) (x (i - (k + 1))))) = _
  rw [show i - (k + 1) + 1 = i - k by omega, show i - (k + 1) + k + 1 = i by omega, show i - 1 - k = i - (k + 1) by omega]
theorem dst_all (x y : Nat → F) (n q : Nat) (h : q < n) : dst x y (n - 1) q = ddF x y q 0 := by
  unfold dst
  by_cases h1 : q < n - 1
  · rw [if_pos h1]
  · obtain rfl : q = n - 1 := by omega
    rw [if_neg h1, Nat.sub_self]
/-- One round of building the row: the row times (x + a), plus d. -/
def nxL (l : List F) (a d : F) : List F := (List.range l.length).map fun j => fa (fa (if j = 0 then 0 else l.getD (j - 1) 0) (fm (l.getD j 0) a)) (if j = 0 then d else 0)
theorem nxL_len (l : List F) (a d : F) : (nxL l a d).length = l.length := by simp [nxL]
theorem nxL_at (l : List F) (a d : F) (j : Nat) (h : j < l.length) : (nxL l a d).getD j 0 = fa (fa (if j = 0 then 0 else l.getD (j - 1) 0) (fm (l.getD j 0) a)) (if j = 0 then d else 0) := by
  unfold nxL
  rw [List.getD_eq_getElem?_getD, List.getElem?_map, List.getElem?_range h]
  rfl
theorem nxL_val (l : List F) (a d z : F) (h : l.getD (l.length - 1) 0 = 0) (h0 : 1 ≤ l.length) : valF (nxL l a d) z = fa (fm (valF l z) (fa z a)) d := by
  obtain ⟨n, hn⟩ : ∃ n, l.length = n + 1 := ⟨l.length - 1, by omega⟩
  unfold valF
  rw [nxL_len]
  have e1 : sm l.length (fun j => fm ((nxL l a d).getD j 0) (P z j)) = sm l.length (fun j => fa (fa (fm (if j = 0 then 0 else l.getD (j - 1) 0) (P z j)) (fm (fm (l.getD j 0) (P z j)) a)) (fm (if j = 0 then d else 0) (P z j))) := sm_congr _ _ _ fun j hj => by
    rw [nxL_at l a d j hj, fa_fm, fa_fm, fm_assoc (l.getD j 0), fm_comm a, ← fm_assoc (l.getD j 0)]
  rw [e1, sm_fa, sm_fa]
  have e2 : sm l.length (fun j => fm (if j = 0 then 0 else l.getD (j - 1) 0) (P z j)) = fm (sm l.length (fun j => fm (l.getD j 0) (P z j))) z := by
    rw [hn, sm_front, if_pos rfl, zero_fm, zero_fa]
    have e3 : sm (n + 1) (fun j => fm (l.getD j 0) (P z j)) = sm n (fun j => fm (l.getD j 0) (P z j)) := by
      rw [sm_last, show n = l.length - 1 by omega, h, zero_fm, fa_zero]
    rw [e3, fm_comm, ← sm_fm]
    refine sm_congr _ _ _ fun j hj => ?_
    rw [if_neg (by omega), show j + 1 - 1 = j by omega, fm_left z, fm_comm z]
    rfl
  have e4 : sm l.length (fun j => fm (fm (l.getD j 0) (P z j)) a) = fm (sm l.length (fun j => fm (l.getD j 0) (P z j))) a := by
    rw [fm_comm, ← sm_fm]
    exact sm_congr _ _ _ fun j _ => fm_comm _ _
  have e5 : sm l.length (fun j => fm (if j = 0 then d else 0) (P z j)) = d := by
    rw [sm_one _ 0 l.length (by omega) (fun j _ hj => by rw [if_neg hj, zero_fm]), if_pos rfl]
    exact fm_one d
  rw [e2, e4, e5, fm_fa]
/-- The rows, from the last number down. -/
def hoL (x d : Nat → F) (n : Nat) : Nat → List F
  | 0 => List.replicate n 0
  | t + 1 => nxL (hoL x d n t) (x (n - (t + 1))) (d (n - (t + 1)))
theorem hoL_len (x d : Nat → F) (n : Nat) : ∀ t, (hoL x d n t).length = n
  | 0 => by simp [hoL]
  | t + 1 => by show (nxL _ _ _).length = n; rw [nxL_len, hoL_len x d n t]
theorem hoL_zero (x d : Nat → F) (n : Nat) : ∀ t j, t ≤ j → (hoL x d n t).getD j 0 = 0
  | 0, j, _ => by
    show (List.replicate n (0 : F)).getD j 0 = 0
    rw [List.getD_eq_getElem?_getD, List.getElem?_replicate]
    split <;> rfl
  | t + 1, j, h => by
    by_cases hj : j < n
    · show (nxL _ _ _).getD j 0 = 0
      rw [nxL_at _ _ _ j (by rw [hoL_len]; exact hj), if_neg (by omega), if_neg (by omega), hoL_zero x d n t (j - 1) (by omega), hoL_zero x d n t j (by omega), zero_fm, fa_zero, fa_zero]
    · rw [List.getD_eq_getElem?_getD, List.getElem?_eq_none (by rw [hoL_len]; omega)]
      rfl
theorem hoL_val (x d : Nat → F) (n : Nat) (z : F) (t : Nat) (h : t < n) : valF (hoL x d n (t + 1)) z = fa (fm (valF (hoL x d n t) z) (fa z (x (n - (t + 1))))) (d (n - (t + 1))) :=
  nxL_val _ _ _ _ (by rw [hoL_len]; exact hoL_zero x d n t (n - 1) (by omega)) (by rw [hoL_len]; omega)
/-- Newton's sum, its first k members. -/
def nsF (x d : Nat → F) (z : F) : Nat → F
  | 0 => 0
  | k + 1 => fa (nsF x d z k) (fm (d k) (prF x 0 z k))
theorem ns_ho (x d : Nat → F) (n : Nat) (z : F) : ∀ t, t ≤ n → nsF x d z n = fa (nsF x d z (n - t)) (fm (prF x 0 z (n - t)) (valF (hoL x d n t) z))
  | 0, _ => by
    have e : valF (hoL x d n 0) z = 0 := by
      unfold valF
      exact sm_none _ _ fun j _ => by rw [hoL_zero x d n 0 j (Nat.zero_le _), zero_fm]
    rw [e, fm_zero, fa_zero, Nat.sub_zero]
  | t + 1, ht => by
    rw [ns_ho x d n z t (by omega), hoL_val x d n z t (by omega)]
    obtain ⟨k, hk⟩ : ∃ k, n - t = k + 1 := ⟨n - t - 1, by omega⟩
    rw [hk, show n - (t + 1) = k by omega]
    show fa (fa (nsF x d z k) (fm (d k) (prF x 0 z k))) (fm (fm (prF x 0 z k) (fa z (x (0 + k)))) _) = _
    rw [Nat.zero_add, fa_assoc]
    congr 1
    exact alg_c _ _ _ _
theorem ns_nw (x y : Nat → F) (z : F) : ∀ k, nsF x (fun q => ddF x y q 0) z (k + 1) = nwF x y 0 z k
  | 0 => by
    show fa 0 (fm (y 0) 1) = y 0
    rw [zero_fa, fm_one]
  | k + 1 => by
    show fa (nsF x _ z (k + 1)) (fm (ddF x y (k + 1) 0) (prF x 0 z (k + 1))) = _
    rw [ns_nw x y z k]
    rfl
/-- The polynomial through points. -/
def newtL (x y : Nat → F) (n : Nat) : List F := hoL x (fun q => ddF x y q 0) n n
theorem newt_len (x y : Nat → F) (n : Nat) : (newtL x y n).length = n := hoL_len _ _ _ _
theorem newt_at (x y : Nat → F) (n : Nat) (h0 : 1 ≤ n) (h : ∀ i j, i < j → j < n → x j ≠ x i) (j : Nat) (hj : j < n) : valF (newtL x y n) (x j) = y j := by
  obtain ⟨k, rfl⟩ : ∃ k, n = k + 1 := ⟨n - 1, by omega⟩
  have e := ns_ho x (fun q => ddF x y q 0) (k + 1) (x j) (k + 1) (Nat.le_refl _)
  rw [Nat.sub_self] at e
  have e2 : nsF x (fun q => ddF x y q 0) (x j) (k + 1) = valF (newtL x y (k + 1)) (x j) := by
    rw [e]
    show fa 0 (fm 1 _) = _
    rw [zero_fa, fm_comm, fm_one]
    rfl
  rw [← e2, ns_nw]
  have z := nw_at x y k 0 (fun i j _ h2 h3 => h i j h2 (by omega)) j (by omega)
  rw [Nat.zero_add] at z
  exact z
end Go.Proofs.YtinmhgackihakaaDoor
namespace Go.Proofs.YtinmhgackihakaaDoor
open Go.RowKit
set_option linter.unusedVariables false
set_option linter.unusedSimpArgs false
set_option maxRecDepth 100000
/-- over: the byte whose product with b is a. -/
theorem over_ok (a b : F) (hb : b ≠ 0) (w : World) : Calls Tryd.prog 19 #[.int .u8 (a.1 : Nat), .int .u8 (b.1 : Nat)] w fun e w' => e = .returned (.int .u8 ((fm a (invF b)).1 : Nat)) ∧ w' = w := by
  obtain ⟨v, HV⟩ : ∃ z, Hid (fm a (invF b) = z) := ⟨_, rfl⟩
  have HM : Hid (∀ (i : Nat) (hi : i < 256), fm ⟨i, hi⟩ b = a ↔ i = v.1) := by
    intro i hi
    have e : fm v b = a := by rw [← HV.out, fm_assoc, fm_comm (invF b), invF_mul b hb, fm_one]
    constructor
    · intro h
      have z := fm_canc hb (h.trans e.symm)
      exact congrArg (fun x : F => x.1) z
    · intro h
      rw [← e]
      congr 1
      exact Fin.ext h
  rw [HV.out]
  have H20 : Hid (∀ (i : Nat) (hi : i < 256) u, Calls Tryd.prog 20 #[.int .u8 (i : Nat), .int .u8 (b.1 : Nat)] u fun e w' => e = .returned (.int .u8 ((fm ⟨i, hi⟩ b).1 : Nat)) ∧ w' = u) := fun i hi u => timesF ⟨i, hi⟩ b u
  go_enter Tryd.func19, Tryd.ntmps19
  go_wp2
  go_loopw [5] (fun vi wr => ∃ i : Nat, i ≤ v.1 ∧ vi = .int .i64 (i : Nat) ∧ Hid (wr = w)) (fun vi _ => 256 - (intOf vi).toNat)
  case atStart => exact ⟨0, Nat.zero_le _, rfl, rfl⟩
  case round =>
    obtain ⟨i, hi, rfl, hw⟩ := hrel
    obtain rfl := hw.out.symm
    have h256 : i < 256 := by have := v.2; omega
    have HI : Hid (i ≤ v.1 ∧ i < 256) := ⟨hi, h256⟩
    have g1 : (i : Int) < 256 := by omega
    have ew : IntKind.u8.wrap ((i : Nat) : Int) = (i : Nat) := wraps_u8 _ (by omega) (by omega)
    have ew2 : ((i : Nat) : Int) % 256 = (i : Nat) := by omega
    have ei : IntKind.i64.wrap ((i : Int) + 1) = ((i + 1 : Nat) : Int) := by rw [IntKind.wrap_i64]; omega
    have H20i := H20.out i h256
    obtain ⟨z, HZ⟩ : ∃ z, Hid ((fm ⟨i, h256⟩ b).1 = z) := ⟨_, rfl⟩
    have HZA : Hid (z = a.1 ↔ i = v.1) := by
      rw [← HZ.out, ← HM.out i h256]
      exact ⟨fun h => Fin.ext h, fun h => by rw [h]⟩
    rw [HZ.out] at H20i
    have H20j : Hid (∀ u, Calls Tryd.prog 20 #[.int .u8 (i : Nat), .int .u8 (b.1 : Nat)] u fun e w' => e = .returned (.int .u8 (z : Nat)) ∧ w' = u) := H20i
    obtain ⟨a0, HA0⟩ : ∃ q, Hid (a.1 = q) := ⟨_, rfl⟩
    obtain ⟨v0, HV0⟩ : ∃ q, Hid (v.1 = q) := ⟨_, rfl⟩
    rw [HA0.out, HV0.out] at HZA
    rw [HV0.out] at HI
    clear H20i hi HZ h256
    rw [HA0.out, HV0.out]
    by_cases hiv : i = v0
    · have hz : z = a0 := HZA.out.2 hiv
      subst hz
      subst hiv
      clear HZA
      go_wp2_with (first
        | (go_at_call 20; refine (H20j.out _).mono ?_; rintro e1 w1 ⟨rfl, hw1⟩; obtain rfl := hw1.symm; clear hw1)
        | fail)
      go_ret
      refine ⟨?_, rfl⟩
      rw [HV0.out]
      rfl
    · have hz : ¬ ((z : Nat) : Int) = ((a0 : Nat) : Int) := fun e => hiv (HZA.out.1 (by omega))
      have HN : Hid (i + 1 ≤ v0 ∧ i < 256) := by have := HI.out; exact ⟨by omega, this.2⟩
      clear HZA hiv
      go_wp2_with (first
        | (go_at_call 20; refine (H20j.out _).mono ?_; rintro e1 w1 ⟨rfl, hw1⟩; obtain rfl := hw1.symm; clear hw1)
        | fail)
      go_roundw
      case rel => exact ⟨i + 1, HN.out.1, by go_num, by first | rfl | exact trivial⟩
      case measure => simp [intOf]; have := HN.out; omega
end Go.Proofs.YtinmhgackihakaaDoor
