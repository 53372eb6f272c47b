import Derived.Test.YtjcdhfkilnbjgaaDoorPart11
import Derived.Deep.Cut
import Derived.Deep.DeepMust
import Derived.Deep.Upon
namespace Go.Proofs.YtjcdhfkilnbjgaaDoor
open Go.RowKit
set_option linter.unusedVariables false
set_option linter.unusedSimpArgs false
set_option maxRecDepth 100000
/-- The law's random bytes. -/
def rndF (Rd : List F) (i : Nat) : F := if Rd.length = 0 then fN (i * i + 7) else fN ((Rd.getD (i % Rd.length) 0).1 + i / Rd.length)
def rndL (Rd : List F) (n : Nat) : List F := (List.range n).map (rndF Rd)
theorem rndL_succ (Rd : List F) (n : Nat) : rndL Rd (n + 1) = rndL Rd n ++ [rndF Rd n] := by simp [rndL, List.range_succ]
theorem rndL_len (Rd : List F) (n : Nat) : (rndL Rd n).length = n := by simp [rndL]
def rnd5 (own : Bool) (Rd : List F) (nd s : Int) : List F := if own then Rd.take 2000 else rndL Rd (rnd nd s).toNat
theorem rnd_few (nd s : Int) : ∃ N : Nat, rnd nd s = (N : Nat) ∧ N ≤ 1020 := by
  unfold rnd
  split
  · rename_i h
    have h1 : 0 ≤ (nd - 1) * (s + 4) := Int.mul_nonneg (by omega) (by omega)
    have h2 : (nd - 1) * (s + 4) ≤ 15 * 68 := Int.mul_le_mul (by omega) (by omega) (by omega) (by omega)
    exact ⟨((nd - 1) * (s + 4)).toNat, by omega, by omega⟩
  · exact ⟨0, rfl, by omega⟩
theorem rndF_none (Rd : List F) (i : Nat) (h : Rd.length = 0) (hi : i ≤ 1100) : IntKind.u8.wrap ((i * i + 7 : Nat) : Int) = ((rndF Rd i).1 : Nat) := by
  unfold rndF
  rw [if_pos h]
  unfold fN IntKind.wrap
  simp [IntKind.bits, IntKind.signed]
theorem rndF_some (Rd : List F) (i q d : Nat) (x : F) (h : Rd.length ≠ 0) (hq : q = i % Rd.length) (hd : d = i / Rd.length) (hx : Rd.getD q 0 = x) : IntKind.u8.wrap ((x.1 : Nat) + IntKind.u8.wrap (d : Int)) = ((rndF Rd i).1 : Nat) := by
  unfold rndF
  rw [if_neg h, ← hq, ← hd, hx]
  unfold fN IntKind.wrap
  simp [IntKind.bits, IntKind.signed]
def RnQ (L : List F) (M : Nat) (e : Ending) (w w' : World) : Prop := ∃ v, e = .returned v ∧ Vf w' v L ∧ Below M w w'
theorem rndN (nd s : Int) (own : Bool) (Rd : List F) : (rnd5 own Rd nd s).length ≤ 2000 := by
  obtain ⟨N, h, h1⟩ := rnd_few nd s
  unfold rnd5
  split
  · rw [List.length_take]; omega
  · rw [rndL_len, h]; omega
set_option maxHeartbeats 1600000 in
/-- The random bytes of a law. -/
theorem random5_ok (sn nd ct : Int) (own : Bool) (sa ra : Option Addr) (s sc rl rc : Nat) (Rd : List F) (w : World) (hl : Hid (rl = Rd.length)) (h : Vf w (.slice ra rl rc) Rd) :
    Calls Tryd.prog 13 #[.agg #[.int .u16 sn, .slice sa s sc, .int .i64 nd, .int .i64 ct, .bool own, .slice ra rl rc]] w fun e w' => RnQ (rnd5 own Rd nd s) w.heap.size e w w' := by
  obtain ⟨M, HMM⟩ : ∃ M, Hid (w.heap.size = M) := ⟨_, rfl⟩
  have HV : Hid (Vf w (.slice ra rl rc) Rd) := h
  obtain ⟨P, HP⟩ : ∃ P : List Value, Hid ([.int .u16 sn, .slice sa s sc, .int .i64 nd, .int .i64 ct, .bool own, .slice ra rl rc] = P) := ⟨_, rfl⟩
  obtain ⟨w1, hw1⟩ : ∃ u, u = w.alloc (.cells #[.int .u16 sn, .slice sa s sc, .int .i64 nd, .int .i64 ct, .bool own, .slice ra rl rc] 25) := ⟨_, rfl⟩
  have H1 : Hid (Bx w1 M 25 P ∧ Below M w w1 ∧ w1.heap.size = M + 1) := by
    rw [← HP.out, ← HMM.out, hw1]
    exact ⟨Bx.new w 25 _, (Below.refl _ _).alloc (Nat.le_refl _) _, by simp⟩
  have HC : Hid (∀ u, Below (M + 1) w1 u → u.cell? ⟨M, 1, none⟩ = some (.slice sa s sc) ∧ u.cell? ⟨M, 2, none⟩ = some (.int .i64 nd) ∧ u.cell? ⟨M, 4, none⟩ = some (.bool own) ∧ u.cell? ⟨M, 5, none⟩ = some (.slice ra rl rc)) := fun u hu => by
    have q : Bx u M 25 P := H1.out.1.keep (hu.block M (by omega))
    rw [← HP.out] at q
    exact ⟨q.cell 1 _ rfl, q.cell 2 _ rfl, q.cell 4 _ rfl, q.cell 5 _ rfl⟩
  obtain ⟨k1, k2, k4, k5⟩ := HC.out w1 (Below.refl _ _)
  obtain ⟨N, hN, hN2⟩ := rnd_few nd s
  have HN : Hid (rnd nd s = (N : Nat) ∧ N ≤ 1020) := ⟨hN, hN2⟩
  clear hN hN2
  cases own with
  | true =>
    have H4 : Hid (Calls Tryd.prog 14 #[.slice ra rl rc, .int .i64 2000] w1 fun e w' => CutQ Rd 2000 e w1 w') := cut_any (.slice ra rl rc) Rd 2000 (by omega) w1 (HV.out.below (by rw [HMM.out]; exact H1.out.2.1))
    rw [HMM.out]
    go_enter Tryd.func13, Tryd.ntmps13
    go_upto_region 1 with fail
    rw [← hw1, HMM.out]
    clear hw1
    go_wp2_with (go_at_call 14; refine H4.out.mono ?_; intro e2 w2 h2; obtain ⟨v2, rfl, h3, hw⟩ := h2; obtain rfl := hw.symm; have H2 : Hid (Vf w1 v2 (Rd.take 2000)) := h3; clear h3 hw)
    go_ret
    exact ⟨v2, rfl, H2.out, H1.out.2.1⟩
  | false =>
    have HRL : Hid (rnd5 false Rd nd s = rndL Rd N) := by
      show _ = _
      unfold rnd5
      rw [HN.out.1]
      rfl
    rw [HRL.out]
    have H10 : Hid (∀ u, Calls Tryd.prog 27 #[.int .i64 nd, .int .i64 (s : Nat)] u fun e w' => e = .returned (.int .i64 (N : Nat)) ∧ w' = u) := fun u => by
      have q := rrandom_ok nd (s : Int) u
      rw [HN.out.1] at q
      exact q
    obtain ⟨i0, hi, hz0, hz1, hz2⟩ := info_parts Tryd.infoB
    have HI0 : Hid (Tryd.prog.info? 5 = some i0 ∧ i0.zero = some (.int .u8 0) ∧ i0.size = 1 ∧ i0.bytes = 1) := ⟨hi, hz0, hz1, hz2⟩
    clear hi hz0 hz1 hz2
    rw [HMM.out]
    go_enter Tryd.func13, Tryd.ntmps13
    go_upto_region 1 with fail
    rw [← hw1, HMM.out]
    clear hw1
    go_upto_region 4 with (go_at_call 27; refine (H10.out _).mono ?_; rintro e2 w2 ⟨rfl, hw2⟩; obtain rfl := hw2.symm; clear hw2)
    have HST : Hid (w1.ownsRow (M + 1) 5 1 (.slice none 0 0) 0 (fc (rndL Rd 0)) ∧ Below (M + 1) w1 w1) := ⟨World.ownsRow_nil _ _ _ _, Below.refl _ _⟩
    clear k1 k2 k4 k5
    go_wp2
    go_loopw [4, 5] (fun vv vi wr => ∃ i : Nat, i ≤ N ∧ vi = .int .i64 (i : Nat) ∧ Hid (wr.ownsRow (M + 1) 5 1 vv i (fc (rndL Rd i)) ∧ Below (M + 1) w1 wr)) (fun _ vi _ => N - (intOf vi).toNat)
    case atStart => exact ⟨0, by omega, rfl, HST.out⟩
    case round =>
      clear HST
      obtain ⟨i, hi, rfl, HI⟩ := hrel
      rename World => wr
      by_cases hlt : i < N
      · obtain ⟨k1, k2, k4, k5⟩ := HC.out wr HI.out.2
        have HLT : Hid (i < N ∧ M + 1 ≤ wr.heap.size ∧ N ≤ 1020) := ⟨hlt, by rw [← H1.out.2.2]; exact HI.out.2.size, HN.out.2⟩
        have g1 : (i : Int) < (N : Int) := by omega
        have gi1 : IntKind.i64.wrap ((i : Int) + 1) = ((i + 1 : Nat) : Int) := by rw [IntKind.wrap_i64]; have := HN.out.2; omega
        clear hlt hi
        by_cases hz : Rd.length = 0
        · obtain rfl : rl = 0 := by have := hl.out; omega
          obtain ⟨ii, HII⟩ : ∃ ii : Nat, Hid (ii = i * i) := ⟨i * i, show _ = _ from rfl⟩
          have HIB : Hid (ii ≤ 1020 * 1020) := by show _ ≤ _; rw [HII.out]; exact Nat.mul_le_mul (by have := HLT.out; omega) (by have := HLT.out; omega)
          have x1 : IntKind.i64.wrap ((i : Int) * (i : Int)) = (ii : Int) := by rw [show ((i : Int) * (i : Int)) = (ii : Int) by rw [HII.out]; exact (Int.natCast_mul i i).symm, IntKind.wrap_i64]; have := HIB.out; omega
          obtain ⟨i7, HI7⟩ : ∃ i7 : Nat, Hid (i7 = ii + 7) := ⟨ii + 7, show _ = _ from rfl⟩
          have x2 : IntKind.i64.wrap ((ii : Int) + 7) = (i7 : Int) := by rw [IntKind.wrap_i64]; have := HIB.out; have := HI7.out; omega
          obtain ⟨Y, HY⟩ : ∃ Y : F, Hid (rndF Rd i = Y) := ⟨_, rfl⟩
          have x3 : IntKind.u8.wrap (i7 : Int) = ((Y.1 : Nat) : Int) := by rw [HI7.out, HII.out, rndF_none Rd i hz (by have := HLT.out; omega), HY.out]
          clear HIB
          go_wp2_with (first
            | (at_builtin; go_must (refine wpList_append_own _ rfl (.tmp 26) (.tmp 32) 23 rfl (M + 1) 5 i0 (.int .u8 0) 1 1 Tryd.underlying23 HI0.out.1 HI0.out.2.1 HI0.out.2.2.1 HI0.out.2.2.2 rfl (by decide) _ i _ rfl (HI.out.1.alloc _) ⟨wr.heap.size, 0, none⟩ 1 1 [.int .u8 (Y.1 : Nat)] rfl rfl (one_cell wr _ 5) (one_u8 _) (by have := HLT.out; unfold maxLen; omega) (by have := HLT.out; omega) (by have := HLT.out; simp; omega) ?_; intro v4 w4 hown hgrow hnil; have H4 : Hid (w4.ownsRow (M + 1) 5 1 v4 (i + 1) (fc (rndL Rd (i + 1))) ∧ Below (M + 1) w1 w4) := ⟨by rw [rndL_succ, fc_append, HY.out]; exact hown, (HI.out.2.alloc HLT.out.2.1 _).grown hgrow (by have := HLT.out; simp; omega) (fun q hq => (HI.out.1.lt q hq).1)⟩; clear hown hgrow hnil))
            | fail)
          go_roundw
          case rel => exact ⟨i + 1, by have := HLT.out; omega, rfl, H4.out⟩
          case measure => simp [intOf]; have := HLT.out; omega
        · obtain ⟨a', c', e', h1', h2', h3', h4'⟩ := HV.out.parts
          injection e' with e1 e2 e3
          subst e1 e3
          obtain ⟨rb, ro, rfl, hr⟩ : ∃ rb ro, ra = some ⟨rb, ro, none⟩ ∧ Rw w rb ro Rd := by
            rcases h4' with q | q
            · rw [q] at hz; exact absurd rfl hz
            · exact q
          clear h1' h2' h3' h4' e2
          obtain ⟨q, HQ⟩ : ∃ q : Nat, Hid (q = i % Rd.length) := ⟨i % Rd.length, show _ = _ from rfl⟩
          obtain ⟨d, HD⟩ : ∃ d : Nat, Hid (d = i / Rd.length) := ⟨i / Rd.length, show _ = _ from rfl⟩
          have hq : q < Rd.length := by rw [HQ.out]; exact Nat.mod_lt _ (by omega)
          obtain ⟨X, HX⟩ : ∃ X : F, Hid (Rd.getD q 0 = X) := ⟨_, rfl⟩
          have HCX : Hid (∀ u, Below wr.heap.size wr u → u.cell? ⟨rb, ro + q, none⟩ = some (.int .u8 (X.1 : Nat)) ∧ u.cell? ⟨M, 5, none⟩ = some (.slice (some ⟨rb, ro, none⟩) rl rc)) := fun u hu => by
            have hb : Below (M + 1) w1 u := HI.out.2.trans (hu.mono HLT.out.2.1)
            refine ⟨?_, (HC.out u hb).2.2.2⟩
            have hc := hr q hq
            rw [HX.out] at hc
            exact ((H1.out.2.1.trans (hb.mono (by omega))).cell (by rw [← HMM.out]; exact World.block_lt_of_cell? _ _ hc)).trans hc
          have x1 : ((i : Nat) : Int).tmod ((rl : Nat) : Int) = (q : Nat) := by rw [hl.out, HQ.out, Int.tmod_eq_emod_of_nonneg (by omega)]; exact (Int.natCast_emod _ _).symm ▸ rfl
          have x2 : ((i : Nat) : Int).tdiv ((rl : Nat) : Int) = (d : Nat) := by rw [hl.out, HD.out, Int.tdiv_eq_ediv_of_nonneg (by omega)]; exact (Int.natCast_ediv _ _).symm ▸ rfl
          have x00 : ¬ rl = 0 := by have := hl.out; omega
          have x0 : ¬ ((rl : Nat) : Int) = 0 := by have := hl.out; omega
          have hdi : d ≤ i := by rw [HD.out]; exact Nat.div_le_self _ _
          have x5 : IntKind.i64.wrap ((d : Nat) : Int) = (d : Int) := by rw [IntKind.wrap_i64]; have := HLT.out; omega
          have y1 : (0 : Int) ≤ (q : Int) := by omega
          have y2 : (q : Int) < (rl : Int) := by have := hl.out; omega
          obtain ⟨Y, HY⟩ : ∃ Y : F, Hid (rndF Rd i = Y) := ⟨_, rfl⟩
          obtain ⟨D8, HD8⟩ : ∃ z : Int, Hid (IntKind.u8.wrap ((d : Nat) : Int) = z) := ⟨_, rfl⟩
          have x3 : IntKind.u8.wrap ((d : Nat) : Int) = D8 := HD8.out
          have x4 : IntKind.u8.wrap (((X.1 : Nat) : Int) + D8) = ((Y.1 : Nat) : Int) := by rw [← HD8.out, rndF_some Rd i q d X hz HQ.out HD.out HX.out, HY.out]
          have z0 : (((rl : Nat) : Int) == 0) = false := by rw [beq_eq_false_iff_ne]; exact x0
          clear hdi hq hr
          go_upto_region 10 with fail
          have hS0 : Below wr.heap.size wr wr.drew := (Below.refl _ _).drew
          refine wp_region_noPanic ?_
          refine wp_region_till (fun u => Below wr.heap.size wr u) 18 (by kernel_rfl) (by decide) (by decide +kernel) (by decide +kernel) (by decide +kernel) (fun inv => ?_)
          refine till_at 0 34 (u4) inv rfl rfl (by decide) (by decide +kernel) (by decide +kernel) (fun _ _ _ h => h) hS0 (Or.inl ⟨by rfl, fun w' hS' => by obtain ⟨p1, p2⟩ := HCX.out _ hS'; go_simp⟩) (fun inv' => ?_)
          clear inv; have inv := inv'; clear inv'
          try simp only [List.setIfInBounds_toArray, List.set_cons_zero, List.set_cons_succ]
          refine till_at 1 35 (.pointer (some ⟨M, 5, none⟩)) inv rfl rfl (by decide) (by decide +kernel) (by decide +kernel) (fun _ _ _ h => h) hS0 (Or.inl ⟨by rfl, fun w' hS' => by obtain ⟨p1, p2⟩ := HCX.out _ hS'; go_simp⟩) (fun inv' => ?_)
          clear inv; have inv := inv'; clear inv'
          try simp only [List.setIfInBounds_toArray, List.set_cons_zero, List.set_cons_succ]
          refine till_at 2 36 (.slice (some ⟨rb, ro, none⟩) rl rc) inv rfl rfl (by decide) (by decide +kernel) (by decide +kernel) (fun _ _ _ h => h) hS0 (Or.inl ⟨by rfl, fun w' hS' => by obtain ⟨p1, p2⟩ := HCX.out _ hS'; go_simp⟩) (fun inv' => ?_)
          clear inv; have inv := inv'; clear inv'
          try simp only [List.setIfInBounds_toArray, List.set_cons_zero, List.set_cons_succ]
          refine till_at 3 37 (.int .i64 (i : Nat)) inv rfl rfl (by decide) (by decide +kernel) (by decide +kernel) (fun _ _ _ h => h) hS0 (Or.inl ⟨by rfl, fun w' hS' => by obtain ⟨p1, p2⟩ := HCX.out _ hS'; go_simp⟩) (fun inv' => ?_)
          clear inv; have inv := inv'; clear inv'
          try simp only [List.setIfInBounds_toArray, List.set_cons_zero, List.set_cons_succ]
          refine till_at 4 38 (.pointer (some ⟨M, 5, none⟩)) inv rfl rfl (by decide) (by decide +kernel) (by decide +kernel) (fun _ _ _ h => h) hS0 (Or.inl ⟨by rfl, fun w' hS' => by obtain ⟨p1, p2⟩ := HCX.out _ hS'; go_simp⟩) (fun inv' => ?_)
          clear inv; have inv := inv'; clear inv'
          try simp only [List.setIfInBounds_toArray, List.set_cons_zero, List.set_cons_succ]
          refine till_at 5 39 (.slice (some ⟨rb, ro, none⟩) rl rc) inv rfl rfl (by decide) (by decide +kernel) (by decide +kernel) (fun _ _ _ h => h) hS0 (Or.inl ⟨by rfl, fun w' hS' => by obtain ⟨p1, p2⟩ := HCX.out _ hS'; go_simp⟩) (fun inv' => ?_)
          clear inv; have inv := inv'; clear inv'
          try simp only [List.setIfInBounds_toArray, List.set_cons_zero, List.set_cons_succ]
          refine till_at 6 40 (.int .i64 (rl : Nat)) inv rfl rfl (by decide) (by decide +kernel) (by decide +kernel) (fun _ _ _ h => h) hS0 (Or.inl ⟨by rfl, fun w' hS' => by obtain ⟨p1, p2⟩ := HCX.out _ hS'; go_simp⟩) (fun inv' => ?_)
          clear inv; have inv := inv'; clear inv'
          try simp only [List.setIfInBounds_toArray, List.set_cons_zero, List.set_cons_succ]
          refine till_at 7 41 (.int .i64 (q : Nat)) inv rfl rfl (by decide) (by decide +kernel) (by decide +kernel) (fun _ _ _ h => h) hS0 (Or.inl ⟨by rfl, fun w' hS' => by obtain ⟨p1, p2⟩ := HCX.out _ hS'; go_simp⟩) (fun inv' => ?_)
          clear inv; have inv := inv'; clear inv'
          try simp only [List.setIfInBounds_toArray, List.set_cons_zero, List.set_cons_succ]
          refine till_at 8 42 (.pointer (some ⟨rb, ro + q, none⟩)) inv rfl rfl (by decide) (by decide +kernel) (by decide +kernel) (fun _ _ _ h => h) hS0 (Or.inl ⟨by rfl, fun w' hS' => by obtain ⟨p1, p2⟩ := HCX.out _ hS'; go_simp⟩) (fun inv' => ?_)
          clear inv; have inv := inv'; clear inv'
          try simp only [List.setIfInBounds_toArray, List.set_cons_zero, List.set_cons_succ]
          refine till_at 9 43 (.int .u8 (X.1 : Nat)) inv rfl rfl (by decide) (by decide +kernel) (by decide +kernel) (fun _ _ _ h => h) hS0 (Or.inl ⟨by rfl, fun w' hS' => by obtain ⟨p1, p2⟩ := HCX.out _ hS'; go_simp⟩) (fun inv' => ?_)
          clear inv; have inv := inv'; clear inv'
          try simp only [List.setIfInBounds_toArray, List.set_cons_zero, List.set_cons_succ]
          refine till_at 10 44 (.int .i64 (i : Nat)) inv rfl rfl (by decide) (by decide +kernel) (by decide +kernel) (fun _ _ _ h => h) hS0 (Or.inl ⟨by rfl, fun w' hS' => by obtain ⟨p1, p2⟩ := HCX.out _ hS'; go_simp⟩) (fun inv' => ?_)
          clear inv; have inv := inv'; clear inv'
          try simp only [List.setIfInBounds_toArray, List.set_cons_zero, List.set_cons_succ]
          refine till_at 11 45 (.pointer (some ⟨M, 5, none⟩)) inv rfl rfl (by decide) (by decide +kernel) (by decide +kernel) (fun _ _ _ h => h) hS0 (Or.inl ⟨by rfl, fun w' hS' => by obtain ⟨p1, p2⟩ := HCX.out _ hS'; go_simp⟩) (fun inv' => ?_)
          clear inv; have inv := inv'; clear inv'
          try simp only [List.setIfInBounds_toArray, List.set_cons_zero, List.set_cons_succ]
          refine till_at 12 46 (.slice (some ⟨rb, ro, none⟩) rl rc) inv rfl rfl (by decide) (by decide +kernel) (by decide +kernel) (fun _ _ _ h => h) hS0 (Or.inl ⟨by rfl, fun w' hS' => by obtain ⟨p1, p2⟩ := HCX.out _ hS'; go_simp⟩) (fun inv' => ?_)
          clear inv; have inv := inv'; clear inv'
          try simp only [List.setIfInBounds_toArray, List.set_cons_zero, List.set_cons_succ]
          refine till_at 13 47 (.int .i64 (rl : Nat)) inv rfl rfl (by decide) (by decide +kernel) (by decide +kernel) (fun _ _ _ h => h) hS0 (Or.inl ⟨by rfl, fun w' hS' => by obtain ⟨p1, p2⟩ := HCX.out _ hS'; go_simp⟩) (fun inv' => ?_)
          clear inv; have inv := inv'; clear inv'
          try simp only [List.setIfInBounds_toArray, List.set_cons_zero, List.set_cons_succ]
          refine till_at 14 48 (.int .i64 (d : Nat)) inv rfl rfl (by decide) (by decide +kernel) (by decide +kernel) (fun _ _ _ h => h) hS0 (Or.inl ⟨by rfl, fun w' hS' => by obtain ⟨p1, p2⟩ := HCX.out _ hS'; go_simp⟩) (fun inv' => ?_)
          clear inv; have inv := inv'; clear inv'
          try simp only [List.setIfInBounds_toArray, List.set_cons_zero, List.set_cons_succ]
          refine till_at 15 49 (.int .u8 D8) inv rfl rfl (by decide) (by decide +kernel) (by decide +kernel) (fun _ _ _ h => h) hS0 (Or.inl ⟨by rfl, fun w' hS' => by obtain ⟨p1, p2⟩ := HCX.out _ hS'; go_simp⟩) (fun inv' => ?_)
          clear inv; have inv := inv'; clear inv'
          try simp only [List.setIfInBounds_toArray, List.set_cons_zero, List.set_cons_succ]
          refine till_at 16 50 (.int .u8 (Y.1 : Nat)) inv rfl rfl (by decide) (by decide +kernel) (by decide +kernel) (fun _ _ _ h => h) hS0 (Or.inl ⟨by rfl, fun w' hS' => by obtain ⟨p1, p2⟩ := HCX.out _ hS'; go_simp⟩) (fun inv' => ?_)
          clear inv; have inv := inv'; clear inv'
          try simp only [List.setIfInBounds_toArray, List.set_cons_zero, List.set_cons_succ]
          refine till_head (i := 17) inv (by decide +kernel) (by decide) rfl (fun KK hK => ?_)
          go_simp
          obtain ⟨wa, hwa⟩ : ∃ u, u = (wr.alloc (.cells #[.int .u8 (Y.1 : Nat)] 5)).drew := ⟨_, rfl⟩
          have HSA : Hid (Below wr.heap.size wr wa ∧ ∀ (j : Nat) (u : Value), [Value.int .u8 (Y.1 : Nat)][j]? = some u → wa.cell? ((⟨wr.heap.size, 0, none⟩ : Addr).add j) = some u) := by
            rw [hwa]
            exact ⟨((Below.refl _ _).alloc (Nat.le_refl _) _).drew, one_cell wr _ 5⟩
          try rw [← hwa]
          clear hwa
          skip
          refine hK.out _ _ (HSA.out.1) (fun inv' => ?_)
          clear hK KK inv; have inv := inv'; clear inv'
          try simp only [List.setIfInBounds_toArray, List.set_cons_zero, List.set_cons_succ]
          refine till_tail (i := 18) (by decide +kernel) (by decide) rfl (fun KK hK => ?_)
          rw [if_pos (by rfl)]
          refine wp_append_own _ (.tmp 34) (.tmp 51) 23 rfl (M + 1) 5 i0 (.int .u8 0) 1 1 Tryd.underlying23 HI0.out.1 HI0.out.2.1 HI0.out.2.2.1 HI0.out.2.2.2 rfl (by decide) _ i _ rfl (own_below HI.out.1 HSA.out.1) ⟨wr.heap.size, 0, none⟩ 1 1 [.int .u8 (Y.1 : Nat)] rfl rfl HSA.out.2 (one_u8 _) (by have := HLT.out; unfold maxLen; omega) (by have := HLT.out; omega) (by have := HLT.out; have := HSA.out.1.size; omega) ?_
          intro v4 w4 hown hgrow hnil
          have H4 : Hid (w4.ownsRow (M + 1) 5 1 v4 (i + 1) (fc (rndL Rd (i + 1))) ∧ Below (M + 1) w1 w4) := ⟨by rw [rndL_succ, fc_append, HY.out]; exact hown, (HI.out.2.trans (HSA.out.1.mono HLT.out.2.1)).grown hgrow (by have := HLT.out; have := HSA.out.1.size; omega) (fun q hq => (HI.out.1.lt q hq).1)⟩
          clear hown hgrow hnil
          refine hK.out _ _ ?_
          clear hK KK
          try simp only [List.setIfInBounds_toArray, List.set_cons_zero, List.set_cons_succ]
          refine till_tail (i := 19) (by decide +kernel) (by decide) rfl (fun KK hK => ?_)
          rw [if_pos (by rfl)]
          go_simp
          refine hK.out _ _ ?_
          clear hK KK
          try simp only [List.setIfInBounds_toArray, List.set_cons_zero, List.set_cons_succ]
          refine till_done (by decide +kernel) ?_ _
          refine NoPanic.normal ?_
          go_wp2
          go_roundw
          case rel => exact ⟨i + 1, by have := HLT.out; omega, rfl, H4.out⟩
          case measure => simp [intOf]; have := HLT.out; omega
      · have hin : i = N := by omega
        subst hin
        have g1 : ¬ (i : Int) < (i : Int) := by omega
        have HF : Hid (Vf wr u4 (rndL Rd i) ∧ Below M w wr) := ⟨own_zi HI.out.1 (rndL_len _ _), H1.out.2.1.trans (HI.out.2.mono (by omega))⟩
        go_wp2
        go_ret
        exact ⟨_, rfl, HF.out.1, HF.out.2⟩
end Go.Proofs.YtjcdhfkilnbjgaaDoor
namespace Go.Proofs.YtjcdhfkilnbjgaaDoor
open Go.RowKit
set_option linter.unusedVariables false
set_option linter.unusedSimpArgs false
set_option maxRecDepth 100000
/-- What a sharing's call answers: the error's number, how many lines, which. -/
def dealE (s : Nat) (nd ct : Int) (r : Nat) : Int := if mayN s nd ct ≠ 0 then mayN s nd ct else if (r : Int) ≠ rnd nd s then 5 else 0
def dealC (s : Nat) (nd ct : Int) (r : Nat) : Nat := if dealE s nd ct r = 0 then ct.toNat else 0
def dealT (sn : Nat) (l R : List F) (nd : Nat) : Nat → ByteArray := lineT (fN (sn / 256)) (fN (sn % 256)) (fN nd) (fN l.length) l.length R (rowS (fN (sn / 256)) (fN (sn % 256)) l) (l.length + 4) nd
/-- Texts, of a list without spare room; of a list with some. -/
def TxA (w : World) (v : Value) (n : Nat) (T : Nat → ByteArray) (M : Nat) : Prop := (n = 0 ∧ v = .slice none 0 0) ∨ ∃ g, v = .slice (some ⟨g, 0, none⟩) n n ∧ M ≤ g ∧ Bx w g 9 (tcs T n)
def TxR (w : World) (v : Value) (n : Nat) (T : Nat → ByteArray) (M : Nat) : Prop := (n = 0 ∧ v = .slice none 0 0) ∨ ∃ g c, v = .slice (some ⟨g, 0, none⟩) n c ∧ M ≤ g ∧ g < w.heap.size ∧ ∀ i, i < n → w.cell? ⟨g, i, none⟩ = some (.string (T i))
def DaQ (er : Int) (n : Nat) (T : Nat → ByteArray) (M : Nat) (e : Ending) (w w' : World) : Prop := ∃ v, e = .returned (.tuple #[v, .int .i64 er]) ∧ TxA w' v n T M ∧ Below M w w'
def DrQ (er : Int) (n : Nat) (T : Nat → ByteArray) (M : Nat) (e : Ending) (w w' : World) : Prop := ∃ v, e = .returned (.tuple #[v, .int .i64 er]) ∧ TxR w' v n T M ∧ Below M w w'
theorem TxA.below {w w' : World} {v : Value} {n M : Nat} {T : Nat → ByteArray} (h : TxA w v n T M) (hb : Below w.heap.size w w') : TxA w' v n T M := by
  rcases h with h | ⟨g, e, h1, h2⟩
  · exact .inl h
  · exact .inr ⟨g, e, h1, h2.below hb⟩
theorem TxR.kept {w w' : World} {v : Value} {n M : Nat} {T : Nat → ByteArray} (h : TxR w v n T M) (hs : w.heap.size ≤ w'.heap.size) (hb : ∀ g, M ≤ g → g < w.heap.size → w'.heap[g]? = w.heap[g]?) : TxR w' v n T M := by
  rcases h with h | ⟨g, c, e, h1, h2, h3⟩
  · exact .inl h
  · exact .inr ⟨g, c, e, h1, by omega, fun i hi => by rw [World.cell?_of_block (w := w) (hb g h1 h2)]; exact h3 i hi⟩
theorem TxA.kept {w w' : World} {v : Value} {n M : Nat} {T : Nat → ByteArray} (h : TxA w v n T M) (hb : ∀ g, M ≤ g → g < w.heap.size → w'.heap[g]? = w.heap[g]?) : TxA w' v n T M := by
  rcases h with h | ⟨g, e, h1, h2⟩
  · exact .inl h
  · exact .inr ⟨g, e, h1, h2.keep (hb g h1 h2.lt)⟩
theorem may_cases (s : Nat) (nd ct : Int) (h : mayN s nd ct = 0) : 1 ≤ s ∧ s ≤ 64 ∧ 1 ≤ nd ∧ nd ≤ 16 ∧ nd ≤ ct ∧ ct ≤ 255 := by
  unfold mayN at h
  split at h
  · split at h
    · omega
    · omega
  · omega
theorem sn_parts (sn : Nat) (h : sn < 65536) : (fN (sn / 256)).1 * 256 + (fN (sn % 256)).1 = sn := by
  rw [fN_val _ (by omega), fN_val _ (by omega)]
  omega
theorem vf_rw {w : World} {a : Option Addr} {n c : Nat} {l : List F} (h : Vf w (.slice a n c) l) : n = l.length ∧ n ≤ c ∧ c ≤ maxLen ∧ (∀ i, i < l.length → ∃ rb ro, a = some ⟨rb, ro, none⟩ ∧ w.cell? ⟨rb, ro + i, none⟩ = some (.int .u8 ((l.getD i 0).1 : Nat))) ∧ (1 ≤ l.length → ∃ rb ro, a = some ⟨rb, ro, none⟩ ∧ Rw w rb ro l) := by
  obtain ⟨a', c', e, h1, h2, h3, h4⟩ := h.parts
  injection e with e1 e2 e3
  subst e1 e3 e2
  refine ⟨rfl, h1, h2, fun i hi => ?_, fun hl => ?_⟩
  · rcases h4 with h4 | ⟨b, off, e, h5⟩
    · rw [h4] at hi; simp at hi
    · exact ⟨b, off, e, h5 i hi⟩
  · rcases h4 with h4 | h4
    · rw [h4] at hl; simp at hl
    · exact h4
theorem deal_any (sn : Nat) (hsn : sn < 65536) (nd ct : Int) (sv rv : Value) (l R : List F) (w : World) (hT : Tables w) (h : Vf w sv l) (hr : Vf w rv R) : Calls Tryd.prog 12 #[.int .u16 (sn : Nat), sv, .int .i64 nd, .int .i64 ct, rv] w fun e w' => DaQ (dealE l.length nd ct R.length) (dealC l.length nd ct R.length) (dealT sn l R nd.toNat) w.heap.size e w w' := by
  obtain ⟨a, c, rfl, _⟩ := h.parts
  obtain ⟨ra, rc, rfl, _⟩ := hr.parts
  by_cases hm : mayN l.length nd ct = 0
  · obtain ⟨h1, h2, h3, h4, h5, h6⟩ := may_cases _ _ _ hm
    by_cases hq : (R.length : Int) = rnd nd l.length
    · have hE : dealE l.length nd ct R.length = 0 := by unfold dealE; rw [if_neg (by omega), if_neg (by omega)]
      have hC : dealC l.length nd ct R.length = ct.toNat := by unfold dealC; rw [if_pos hE]
      rw [hC, hE]
      obtain ⟨_, hc1, hc2, _, hb⟩ := vf_rw h
      obtain ⟨b, off, rfl, hrw⟩ := hb h1
      obtain ⟨_, _, _, hcell, _⟩ := vf_rw hr
      obtain ⟨ndN, rfl⟩ : ∃ k : Nat, nd = (k : Int) := ⟨nd.toNat, by omega⟩
      obtain ⟨ctN, rfl⟩ : ∃ k : Nat, ct = (k : Int) := ⟨ct.toNat, by omega⟩
      have hlen : R.length = (ndN - 1) * (l.length + 4) := by
        unfold rnd at hq
        rw [if_pos (by omega)] at hq
        rw [← Int.natCast_inj, hq, Int.natCast_mul]
        congr 1
        omega
      simp only [Int.toNat_natCast]
      refine (deal_good sn ndN ctN l.length b off c ra R.length rc (fN (sn / 256)) (fN (sn % 256)) (fN ndN) (fN l.length) l R w (sn_parts sn hsn) (show _ ∧ _ ∧ _ from ⟨rfl, h1, h2⟩) (show _ ∧ _ ∧ _ ∧ _ from ⟨by omega, by omega, by omega, by omega⟩) (fN_val _ (by omega)) (fN_val _ (by omega)) (show _ ∧ _ from ⟨hc1, hc2⟩) hrw (show _ ∧ _ from ⟨hlen, rfl⟩) hcell hT).mono fun e w' hh => ?_
      obtain ⟨g, rfl, q1, q2, q3⟩ := hh.out
      exact ⟨_, rfl, .inr ⟨g, rfl, q1, q2⟩, q3⟩
    · have hE : dealE l.length nd ct R.length = 5 := by unfold dealE; rw [if_neg (by omega), if_pos hq]
      have hC : dealC l.length nd ct R.length = 0 := by unfold dealC; rw [if_neg (by omega)]
      rw [hC, hE]
      refine (deal_short _ a ra _ c _ rc nd ct (show _ ∧ _ from ⟨hm, hq⟩) w).mono fun e w' hh => ?_
      obtain ⟨rfl, rfl⟩ := hh
      exact ⟨_, rfl, .inl ⟨rfl, rfl⟩, Below.refl _ _⟩
  · have hE : dealE l.length nd ct R.length = mayN l.length nd ct := by unfold dealE; rw [if_pos hm]
    have hC : dealC l.length nd ct R.length = 0 := by unfold dealC; rw [if_neg (by rw [hE]; exact hm)]
    rw [hC, hE]
    refine (deal_bad _ a ra _ c _ rc nd ct hm w).mono fun e w' hh => ?_
    obtain ⟨rfl, rfl⟩ := hh
    exact ⟨_, rfl, .inl ⟨rfl, rfl⟩, Below.refl _ _⟩
end Go.Proofs.YtjcdhfkilnbjgaaDoor
namespace Go.Proofs.YtjcdhfkilnbjgaaDoor
open Go.RowKit
set_option linter.unusedVariables false
set_option linter.unusedSimpArgs false
set_option maxRecDepth 100000
theorem jr_all {T : Nat → ByteArray} {n k : Nat} (hg : ∀ i, i < n → ∃ d, MGood (T i) (gR (T i)) d) (h : JrP T n k) : JnP (fun i => gR (T i)) n k := by
  rcases h with ⟨b, hb, _, hk⟩ | ⟨_, h⟩
  · obtain ⟨d, hd⟩ := hg b hb
    exact (bad_good hk hd).elim
  · exact h
theorem jn_not {R : Nat → List F} {n k : Nat} (h : JnP R n k) (g : JgP R n) : False := by
  obtain ⟨h0, h1, h2, h3, h4, h5⟩ := g
  rcases h with h | h | h | h | h
  · omega
  · exact h.1 h1
  · exact h2 h.2.1
  · have := h.2.2.2.1; omega
  · exact h.2.2.2.2.1 ⟨h4, h5⟩
/-- Lines that are mended to shares of a sharing. -/
structure Lns (z : Shg) (T : Nat → ByteArray) (n : Nat) (X : Nat → F) : Prop where
  ok : z.ok
  good : ∀ i, i < n → ∃ d, MGood (T i) (z.at' (X i)) d
  lo : ∀ i, i < n → 1 ≤ (X i).1
theorem Lns.eq {z : Shg} {T : Nat → ByteArray} {n : Nat} {X : Nat → F} (h : Lns z T n X) (i : Nat) (hi : i < n) : gR (T i) = z.at' (X i) := by
  obtain ⟨d, hd⟩ := h.good i hi
  exact gR_eq hd
theorem Lns.all {z : Shg} {T : Nat → ByteArray} {n : Nat} {X : Nat → F} (h : Lns z T n X) : ∀ i, i < n → ∃ d, MGood (T i) (gR (T i)) d := fun i hi => by rw [h.eq i hi]; exact h.good i hi
theorem Lns.ofs {z : Shg} {T : Nat → ByteArray} {n : Nat} {X : Nat → F} (h : Lns z T n X) : Ofs z (fun i => gR (T i)) n X := ⟨h.ok, fun i hi => h.eq i hi, h.lo⟩
/-- As many shares as are needed give it back. -/
theorem Lns.join {z : Shg} {T : Nat → ByteArray} {n M : Nat} {X : Nat → F} {e : Ending} {w w' : World} (h : Lns z T n X) (hn : z.bn.1 ≤ onN (fun i => gR (T i)) n) (hj : JoQ T n M e w w') :
    ∃ g, e = .returned (.tuple #[.slice (some ⟨g, 0, none⟩) z.l.length z.l.length, .int .i64 0]) ∧ M ≤ g ∧ Bx w' g 5 (fc z.l) ∧ Below M w w' := by
  obtain ⟨⟨k, hk, _⟩ | ⟨_, _, g, he, hg, hb⟩, hbl⟩ := hj
  · exact (jn_not (jr_all h.all hk) (h.ofs.good hn)).elim
  · have h0 := h.ofs.pos hn
    rw [h.eq 0 h0, z.at_4, h.ok.size] at he
    rw [h.eq 0 h0, z.at_4, z.at_2, h.ok.size, h.ofs.gives hn] at hb
    exact ⟨g, he, hg, hb, hbl⟩
theorem Lns.few {z : Shg} {T : Nat → ByteArray} {n M : Nat} {X : Nat → F} {e : Ending} {w w' : World} (h : Lns z T n X) (hn : onN (fun i => gR (T i)) n < z.bn.1) (hj : JoQ T n M e w w') :
    e = .returned (.tuple #[.slice none 0 0, .int .i64 114]) ∧ Below M w w' := by
  obtain ⟨⟨k, hk, he⟩ | ⟨_, hg, _⟩, hbl⟩ := hj
  · have := (h.ofs.few hn).2 k (jr_all h.all hk)
    subst this
    exact ⟨he, hbl⟩
  · exact ((h.ofs.few hn).1 hg).elim
theorem Lns.ext {z : Shg} {T : Nat → ByteArray} {n M : Nat} {X : Nat → F} {e : Ending} {w w' : World} (h : Lns z T n X) (hn : z.bn.1 ≤ onN (fun i => gR (T i)) n) (x : F) (hx : 1 ≤ x.1) (hj : ExQ x.1 T n M e w w') :
    e = .returned (.tuple #[.string (WLs (z.at' x)), .int .i64 0]) ∧ Below M w w' := by
  obtain ⟨⟨h1, _⟩ | ⟨_, _, k, hk, _⟩ | ⟨_, _, X', hX, he⟩, hbl⟩ := hj
  · exfalso
    have := x.2
    omega
  · exact (jn_not (jr_all h.all hk) (h.ofs.good hn)).elim
  · have hXx : X' = x := Fin.ext (by omega)
    subst hXx
    refine ⟨?_, hbl⟩
    rw [he]
    congr 4
    have h0 := h.ofs.pos hn
    unfold exL Shg.at' valsL
    dsimp only
    rw [h.eq 0 h0, z.at_0, z.at_1, z.at_2, z.at_4, h.ok.size]
    refine congrArg (fun vs => Value.string (WLs (fullL z.b0 z.b1 z.bn X' z.bs z.l.length vs))) (List.map_congr_left fun v hv => ?_)
    rw [h.ofs.ft hn v (List.mem_range.1 hv)]
    rfl
/-- The sharing that Deal makes. -/
def shD (sn : Nat) (l R : List F) (nd : Nat) : Shg := ⟨fN (sn / 256), fN (sn % 256), fN nd, fN l.length, l, R⟩
theorem shD_ok (sn : Nat) (l R : List F) (nd : Nat) (h1 : 1 ≤ l.length) (h2 : l.length ≤ 64) (h3 : 1 ≤ nd) (h4 : nd ≤ 16) : (shD sn l R nd).ok :=
  ⟨fN_val _ (by omega), h1, h2, by show 1 ≤ (fN nd).1; rw [fN_val _ (by omega)]; exact h3, by show (fN nd).1 ≤ 16; rw [fN_val _ (by omega)]; exact h4⟩
theorem dealT_at (sn : Nat) (l R : List F) (nd i : Nat) (h : nd ≤ 16) : dealT sn l R nd i = WLs ((shD sn l R nd).at' (fN (i + 1))) := by
  unfold dealT lineT Shg.at' shD
  simp only [fN_val nd (by omega)]
  rfl
theorem Shg.good {z : Shg} (h : z.ok) (x : F) (hx : 1 ≤ x.1) : MGood (WLs (z.at' x)) (z.at' x) 0 := self_good _ (Shg.okR h x hx) (z.zero x)
end Go.Proofs.YtjcdhfkilnbjgaaDoor
namespace Go.Proofs.YtjcdhfkilnbjgaaDoor
open Go.RowKit
set_option linter.unusedVariables false
set_option linter.unusedSimpArgs false
set_option maxRecDepth 100000
theorem wpList_append_zero {w : World} {ops : Array Oper} {rest : List Oper} {o : Oper} {a : Act} {Q : Exit → Act → World → Prop} (hgd : o.guard = none) (s x : Operand)
    (ho : o.op = .call { callee := .builtin .append, args := #[s, x], argTypes := #[23, 23] }) (base : Option Addr) (c : Nat) (hs : a.eval s = .slice base 0 c) (a2 : Option Addr) (c2 : Nat) (hx : a.eval x = .slice a2 0 c2)
    (h : wpList Tryd.prog ops Q rest (a.put o.dst (.slice base 0 c)) w) : wpList Tryd.prog ops Q (o :: rest) a w := by
  refine wpList_plain hgd fun K hK => ?_
  obtain ⟨i0, hi, hz0, hz1, hz2⟩ := info_parts Tryd.infoB
  have hsrc : Src Tryd.prog i0.size 23 (.slice a2 0 c2) 0 [] w := by
    cases a2 with
    | none => exact Src.ofNil w Tryd.underlying23' c2
    | some a2 => exact Src.ofSlice w Tryd.underlying23' a2 0 c2 [] (by simp) (fun j u hu => by simp at hu) (fun u hu => by cases hu)
  have hrun := run_append_nothing (P := Tryd.prog) w 23 23 o.type 5 i0 Tryd.underlying23' hi base 0 c (Nat.zero_le _) _ hsrc
  unfold Oper.wp
  simp [execOp, ho, resolve, invoke, builtin, hs, hx, hrun, Result.andThen]
  exact hK _ _ h
/-- A Deal's zero. -/
def Z25 : List Value := [.int .u16 0, .slice none 0 0, .int .i64 0, .int .i64 0, .bool false, .slice none 0 0]
/-- The secret that is shared. -/
def sec5 (l : List F) : List F := if l = [] then [5] else l.take 64
def nd5 (nd : Int) : Nat := 1 + (IntKind.u64.wrap nd % 16).toNat
def ct5 (nd ct : Int) : Nat := nd5 nd + (IntKind.u64.wrap ct % 9).toNat
theorem sec5_len (l : List F) : 1 ≤ (sec5 l).length ∧ (sec5 l).length ≤ 64 := by
  unfold sec5
  split
  · simp
  · rename_i h
    have : 0 < l.length := by cases l with | nil => exact absurd rfl h | cons => simp
    rw [List.length_take]
    omega
theorem nd5_le (nd : Int) : 1 ≤ nd5 nd ∧ nd5 nd ≤ 16 := by
  unfold nd5
  have := Int.emod_lt_of_pos (IntKind.u64.wrap nd) (show (0 : Int) < 16 by decide)
  have := Int.emod_nonneg (IntKind.u64.wrap nd) (show (16 : Int) ≠ 0 by decide)
  omega
theorem ct5_le (nd ct : Int) : nd5 nd ≤ ct5 nd ct ∧ ct5 nd ct ≤ 24 := by
  have := nd5_le nd
  unfold ct5
  have := Int.emod_lt_of_pos (IntKind.u64.wrap ct) (show (0 : Int) < 9 by decide)
  have := Int.emod_nonneg (IntKind.u64.wrap ct) (show (9 : Int) ≠ 0 by decide)
  omega
theorem ret_agg_tmp2 {P : Program} {fn : Func} {p t t2 : Tmp} {ty : TypeId} {d : TypeDesc} {Q : Ending → World → Prop} {tmps : Array Value} {w : World} {b : Nat} (cs : List Value) (v v2 : Value) (h : fn.results = #[.cell p ty, .tmp t, .tmp t2])
    (hp : tmps.getD p undef = .pointer (some ⟨b, 0, none⟩)) (ht : tmps.getD t undef = v) (ht2 : tmps.getD t2 undef = v2) (hr : w.rangeAt b 0 cs) (hu : P.underlying ty = some d) (hd : d.isRow = true) (hi : (P.info? ty).map (·.size) = some cs.length)
    (hq : Q (.returned (.tuple #[.agg cs.toArray, v, v2])) w) : bodyPost P fn Q .ret ⟨tmps, []⟩ w := by
  refine bodyPost_ret (v := .tuple #[.agg cs.toArray, v, v2]) ?_ rfl hq
  have hr2 : (results fn tmps).run P w = ((asAddr (tmps.getD p undef)).run P w).andThen fun a w₁ => ((loadVar ty a).run P w₁).andThen fun v w₂ => .ok (.tuple #[v, tmps.getD t undef, tmps.getD t2 undef]) w₂ := by
    simp only [results, h]
    simp [Sem.run_bind, Result.andThen]
  rw [hr2]
  have hl := run_loadVar_mid (P := P) w b 0 ty cs d hr hu hd hi
  simp [hp, asAddr, hl, ht, ht2]
theorem u64_wrap (x : Int) : 0 ≤ IntKind.u64.wrap x := by
  simp [IntKind.wrap, IntKind.bits, IntKind.signed]
  omega
theorem own_rc {w : World} {B : Nat} {v : Value} {l : List F} (h : w.ownsRow B 5 1 v l.length (fc l)) (h1 : 1 ≤ l.length) : ∃ g c, v = .slice (some ⟨g, 0, none⟩) l.length c ∧ Hid (Rx w g l ∧ B ≤ g ∧ l.length ≤ c ∧ c ≤ maxLen) := by
  rcases h.2 with ⟨e, _⟩ | ⟨g, cap, cur, q, hB, hh, h3, h4, h5, h6⟩
  · omega
  · refine ⟨g, cap, q, ⟨cur.toList.drop l.length, ?_⟩, hB, h3, h4⟩
    unfold Bx
    rw [hh, ← h6, Nat.mul_one, List.take_append_drop]
set_option maxHeartbeats 3200000 in
/-- dealt. -/
theorem dealt_ok (sn : Nat) (hsn : Hid (sn < 65536)) (nd ct : Int) (own : Bool) (sv : Value) (ra : Option Addr) (rl rc : Nat) (S Rd : List F) (w : World) (hT : Hid (Tables w)) (h : Hid (Vf w sv S)) (hr : Hid (Vf w (.slice ra rl rc) Rd)) :
    Calls Tryd.prog 8 #[.agg #[.int .u16 (sn : Nat), sv, .int .i64 nd, .int .i64 ct, .bool own, .slice ra rl rc]] w fun e w' => Hid (∃ g c tg, e = .returned (.tuple #[.agg #[.int .u16 (sn : Nat), .slice (some ⟨g, 0, none⟩) (sec5 S).length c, .int .i64 (nd5 nd : Nat), .int .i64 (ct5 nd ct : Nat), .bool false, .slice ra rl rc], .slice (some ⟨tg, 0, none⟩) (ct5 nd ct) (ct5 nd ct), .bool true]) ∧ (sec5 S).length ≤ c ∧ c ≤ maxLen ∧ w.heap.size ≤ g ∧ Rx w' g (sec5 S) ∧ w.heap.size ≤ tg ∧ Bx w' tg 9 (tcs (dealT sn (sec5 S) (rnd5 false Rd (nd5 nd) (sec5 S).length) (nd5 nd)) (ct5 nd ct)) ∧ Below w.heap.size w w') := by
  obtain ⟨M, HMM⟩ : ∃ M, Hid (w.heap.size = M) := ⟨_, rfl⟩
  obtain ⟨w1, hw1⟩ : ∃ u, u = (w.alloc (.cells #[.int .u16 (sn : Nat), sv, .int .i64 nd, .int .i64 ct, .bool own, .slice ra rl rc] 25)).alloc (.cells #[.int .u16 0, .slice none 0 0, .int .i64 0, .int .i64 0, .bool false, .slice none 0 0] 25) := ⟨_, rfl⟩
  have H1 : Hid (Bx w1 M 25 [.int .u16 (sn : Nat), sv, .int .i64 nd, .int .i64 ct, .bool own, .slice ra rl rc] ∧ Bx w1 (M + 1) 25 Z25 ∧ Below M w w1 ∧ w1.heap.size = M + 2) := by
    have hb : Below M w (w.alloc (.cells #[.int .u16 (sn : Nat), sv, .int .i64 nd, .int .i64 ct, .bool own, .slice ra rl rc] 25)) := (Below.refl _ _).alloc (Nat.le_of_eq HMM.out.symm) _
    have h0 : (w.alloc (.cells #[.int .u16 (sn : Nat), sv, .int .i64 nd, .int .i64 ct, .bool own, .slice ra rl rc] 25)).heap.size = M + 1 := by rw [← HMM.out]; simp
    have hb2 : Below (M + 1) (w.alloc (.cells #[.int .u16 (sn : Nat), sv, .int .i64 nd, .int .i64 ct, .bool own, .slice ra rl rc] 25)) w1 := by rw [hw1]; exact (Below.refl _ _).alloc (Nat.le_of_eq h0.symm) _
    have hx : Bx (w.alloc (.cells #[.int .u16 (sn : Nat), sv, .int .i64 nd, .int .i64 ct, .bool own, .slice ra rl rc] 25)) M 25 [.int .u16 (sn : Nat), sv, .int .i64 nd, .int .i64 ct, .bool own, .slice ra rl rc] := by rw [← HMM.out]; exact Bx.new w 25 _
    refine ⟨hx.keep (hb2.block M (by omega)), ?_, hb.trans (hb2.mono (by omega)), ?_⟩
    · rw [hw1, ← h0]; exact Bx.new _ 25 Z25
    · rw [hw1]; simp [← HMM.out]
  obtain ⟨w2, hw2⟩ : ∃ u, u = w1.setCell ⟨M, 4, none⟩ (.bool false) := ⟨_, rfl⟩
  have H2 : Hid (Bx w2 M 25 [.int .u16 (sn : Nat), sv, .int .i64 nd, .int .i64 ct, .bool false, .slice ra rl rc] ∧ Bx w2 (M + 1) 25 Z25 ∧ Below M w w2 ∧ w2.heap.size = M + 2) := by
    rw [hw2]
    refine ⟨H1.out.1.set 4 _, H1.out.2.1.keep ?_, H1.out.2.2.1.setCell (Nat.le_refl _) _, ?_⟩
    · exact (set_gb _ _ _ _).block (M + 1) H1.out.2.1.lt (fun e => by injection e with e; omega)
    · rw [← H1.out.2.2.2]; simp [World.setCell]
  obtain ⟨w3, hw3⟩ : ∃ u, u = w2.alloc (.cells #[] 5) := ⟨_, rfl⟩
  have H3 : Hid (Below (M + 2) w2 w3 ∧ w3.heap[M + 2]? = some (.cells #[] 5 (0, 0)) ∧ w3.heap.size = M + 3) := by
    rw [hw3]
    refine ⟨(Below.refl _ _).alloc (Nat.le_of_eq H2.out.2.2.2.symm) _, ?_, by simp [H2.out.2.2.2]⟩
    rw [← H2.out.2.2.2]
    exact new_none w2
  have HS3 : Hid (Vf w3 sv S) := h.out.below (by rw [HMM.out]; exact H2.out.2.2.1.trans (H3.out.1.mono (by omega)))
  have H14 : Hid (Calls Tryd.prog 14 #[sv, .int .i64 64] w3 fun e w' => CutQ S 64 e w3 w') := cut_any sv S 64 (by omega) w3 HS3.out
  have c4 := H1.out.1.cell 4 _ rfl
  have f4 := H1.out.1.frozen 4
  have H3x : Hid (Bx w3 M 25 [.int .u16 (sn : Nat), sv, .int .i64 nd, .int .i64 ct, .bool false, .slice ra rl rc]) := H2.out.1.keep (H3.out.1.block M (by omega))
  have c1 := H3x.out.cell 1 _ rfl
  have f1 := H3x.out.frozen 1
  obtain ⟨S2, HS2⟩ : ∃ z : List F, Hid (sec5 S = z) := ⟨_, rfl⟩
  have HSL : Hid (1 ≤ S2.length ∧ S2.length ≤ 64) := by rw [← HS2.out]; exact sec5_len S
  obtain ⟨N, HN⟩ : ∃ z, Hid (nd5 nd = z) := ⟨_, rfl⟩
  obtain ⟨K, HK⟩ : ∃ z, Hid (ct5 nd ct = z) := ⟨_, rfl⟩
  have HNK : Hid (1 ≤ N ∧ N ≤ 16 ∧ N ≤ K ∧ K ≤ 24) := by rw [← HN.out, ← HK.out]; exact ⟨(nd5_le nd).1, (nd5_le nd).2, (ct5_le nd ct).1, (ct5_le nd ct).2⟩
  have HN16 : Hid (RowKit.wrap64 (1 + RowKit.wrap64 ((IntKind.u64.wrap nd).tmod 16)) = (N : Nat)) := by
    show _ = _
    rw [← HN.out, Int.tmod_eq_emod_of_nonneg (u64_wrap nd)]
    unfold nd5
    have := Int.emod_lt_of_pos (IntKind.u64.wrap nd) (show (0 : Int) < 16 by decide)
    have := Int.emod_nonneg (IntKind.u64.wrap nd) (show (16 : Int) ≠ 0 by decide)
    generalize IntKind.u64.wrap nd % 16 = y at *
    simp [RowKit.wrap64]
    omega
  have HK9 : Hid (RowKit.wrap64 ((N : Nat) + RowKit.wrap64 ((IntKind.u64.wrap ct).tmod 9)) = (K : Nat)) := by
    show _ = _
    rw [← HK.out, Int.tmod_eq_emod_of_nonneg (u64_wrap ct)]
    unfold ct5
    rw [HN.out]
    have := HNK.out
    have := Int.emod_lt_of_pos (IntKind.u64.wrap ct) (show (0 : Int) < 9 by decide)
    have := Int.emod_nonneg (IntKind.u64.wrap ct) (show (9 : Int) ≠ 0 by decide)
    generalize IntKind.u64.wrap ct % 9 = y at *
    simp [RowKit.wrap64]
    omega
  obtain ⟨R, HRR⟩ : ∃ z : List F, Hid (rnd5 false Rd (N : Nat) (S2.length : Nat) = z) := ⟨_, rfl⟩
  obtain ⟨T, HTT⟩ : ∃ z, Hid (dealT sn S2 R N = z) := ⟨_, rfl⟩
  have HRd : Hid (rl = Rd.length) := (vf_rw hr.out).1
  have HER : Hid (dealE S2.length (N : Nat) (K : Nat) R.length = 0) := by
    show _ = _
    unfold dealE
    have hm : mayN S2.length (N : Nat) (K : Nat) = 0 := by
      unfold mayN
      rw [if_pos (by have := HSL.out; omega), if_pos (by have := HNK.out; omega)]
    rw [if_neg (by rw [hm]; simp), if_neg]
    rw [← HRR.out]
    unfold rnd5
    rw [if_neg (by decide), rndL_len]
    obtain ⟨z, hz, _⟩ := rnd_few (N : Nat) (S2.length : Nat)
    rw [hz]
    simp
  have HKK : Hid (dealC S2.length (N : Nat) (K : Nat) R.length = K) := by
    show _ = _
    unfold dealC
    rw [if_pos HER.out]
    rfl
  rw [HS2.out, HN.out, HK.out, HRR.out, HTT.out]
  subst hw3
  rw [HMM.out]
  go_enter Tryd.func8, Tryd.ntmps8
  go_upto_region 1 with fail
  rw [HMM.out]
  rw [← hw1]
  clear hw1
  go_upto_region 2 with fail
  rw [← hw2]
  clear hw2 c4 f4
  have hfr : w2.heap.size = M + 2 := H2.out.2.2.2
  by_cases hS : S = []
  · have HS0 : Hid (S2 = [5]) := by show _ = _; rw [← HS2.out, hS]; rfl
    subst hS
    go_upto_region 3 with (first
      | (go_at_call 14; refine H14.out.mono ?_; intro e4 w4 h4; obtain ⟨v4, rfl, h5, hw⟩ := h4; obtain rfl := hw.symm; obtain ⟨a4, c4, rfl, _⟩ := h5.parts; clear h5 hw)
      | (refine wpList_append_zero (by rfl) (.tmp 8) (.tmp 11) (by rfl) _ _ (by rfl) _ _ (by rfl) ?_)
      | fail)
    obtain ⟨w4, hw4⟩ : ∃ u, u = (w2.setCell ⟨M, 1, none⟩ (.slice (some ⟨M + 2, 0, none⟩) 0 0)).alloc (.cells #[] 5) := ⟨_, rfl⟩
    rw [← hw4]
    have H4 : Hid (Bx w4 M 25 [.int .u16 (sn : Nat), .slice (some ⟨M + 2, 0, none⟩) 0 0, .int .i64 nd, .int .i64 ct, .bool false, .slice ra rl rc] ∧ Bx w4 (M + 1) 25 Z25 ∧ Below M w w4 ∧ w4.heap.size = M + 3) := by
      have e0 : (w2.setCell ⟨M, 1, none⟩ (.slice (some ⟨M + 2, 0, none⟩) 0 0)).heap.size = M + 2 := by rw [← H2.out.2.2.2]; simp [World.setCell]
      have hb : Below (M + 2) (w2.setCell ⟨M, 1, none⟩ (.slice (some ⟨M + 2, 0, none⟩) 0 0)) w4 := by rw [hw4]; exact (Below.refl _ _).alloc (Nat.le_of_eq e0.symm) _
      refine ⟨(H2.out.1.set 1 _).keep (hb.block M (by omega)), (H2.out.2.1.keep ((set_gb _ _ _ _).block (M + 1) H2.out.2.1.lt (fun e => by injection e with e; omega))).keep (hb.block (M + 1) (by omega)), (H2.out.2.2.1.setCell (Nat.le_refl _) _).trans (hb.mono (by omega)), ?_⟩
      rw [hw4]
      simp [e0]
    clear hw4 c1 f1 hfr
    have hfr4 : w4.heap.size = M + 3 := H4.out.2.2.2
    have c1 := H4.out.1.cell 1 _ rfl
    have f1 := H4.out.1.frozen 1
    go_upto_region 5 with fail
    obtain ⟨w5, hw5⟩ : ∃ u, u = (w4.setCell ⟨M, 1, none⟩ (.slice (some ⟨M + 3, 0, none⟩) 1 1)).alloc (.cells #[.int .u8 5] 5) := ⟨_, rfl⟩
    rw [← hw5]
    have H5 : Hid (Bx w5 M 25 [.int .u16 (sn : Nat), .slice (some ⟨M + 3, 0, none⟩) S2.length 1, .int .i64 nd, .int .i64 ct, .bool false, .slice ra rl rc] ∧ Bx w5 (M + 1) 25 Z25 ∧ Below M w w5 ∧ M + 2 ≤ M + 3 ∧ Rx w5 (M + 3) S2 ∧ S2.length ≤ 1 ∧ 1 ≤ maxLen) := by
      have e0 : (w4.setCell ⟨M, 1, none⟩ (.slice (some ⟨M + 3, 0, none⟩) 1 1)).heap.size = M + 3 := by rw [← H4.out.2.2.2]; simp [World.setCell]
      have hb : Below (M + 3) (w4.setCell ⟨M, 1, none⟩ (.slice (some ⟨M + 3, 0, none⟩) 1 1)) w5 := by rw [hw5]; exact (Below.refl _ _).alloc (Nat.le_of_eq e0.symm) _
      rw [HS0.out]
      refine ⟨(H4.out.1.set 1 _).keep (hb.block M (by omega)), (H4.out.2.1.keep ((set_gb _ _ _ _).block (M + 1) H4.out.2.1.lt (fun e => by injection e with e; omega))).keep (hb.block (M + 1) (by omega)), (H4.out.2.2.1.setCell (Nat.le_refl _) _).trans (hb.mono (by omega)), by omega, ⟨[], ?_⟩, by simp, by unfold maxLen; omega⟩
      have z := Bx.new (w4.setCell ⟨M, 1, none⟩ (.slice (some ⟨M + 3, 0, none⟩) 1 1)) 5 [.int .u8 5]
      rw [e0] at z
      rw [hw5]
      exact z
    clear hw5 c1 f1 hfr4 H4
    have c2 := H5.out.1.cell 2 _ rfl
    have f2 := H5.out.1.frozen 2
    have c3 := H5.out.1.cell 3 _ rfl
    have f3 := H5.out.1.frozen 3
    go_upto_region 7 with fail
    rw [HN16.out, HK9.out]
    have H7 : Hid (Bx ((w5.setCell ⟨M, 2, none⟩ (.int .i64 (N : Nat))).setCell ⟨M, 3, none⟩ (.int .i64 (K : Nat))) M 25 [.int .u16 (sn : Nat), .slice (some ⟨M + 3, 0, none⟩) S2.length 1, .int .i64 (N : Nat), .int .i64 (K : Nat), .bool false, .slice ra rl rc] ∧ Bx ((w5.setCell ⟨M, 2, none⟩ (.int .i64 (N : Nat))).setCell ⟨M, 3, none⟩ (.int .i64 (K : Nat))) (M + 1) 25 Z25 ∧ Below M w ((w5.setCell ⟨M, 2, none⟩ (.int .i64 (N : Nat))).setCell ⟨M, 3, none⟩ (.int .i64 (K : Nat))) ∧ Rx ((w5.setCell ⟨M, 2, none⟩ (.int .i64 (N : Nat))).setCell ⟨M, 3, none⟩ (.int .i64 (K : Nat))) (M + 3) S2) := by
      have hg : w5.grownBy ((w5.setCell ⟨M, 2, none⟩ (.int .i64 (N : Nat))).setCell ⟨M, 3, none⟩ (.int .i64 (K : Nat))) (some M) := (set_gb _ _ _ _).trans (set_gb _ _ _ _)
      obtain ⟨x1, x2, x3, x5, ⟨sp, x4⟩, x6, x7⟩ := H5.out
      exact ⟨(x1.set 2 _).set 3 _, x2.keep (hg.block (M + 1) x2.lt (fun e => by injection e with e; omega)), (x3.setCell (Nat.le_refl _) _).setCell (Nat.le_refl _) _, ⟨sp, x4.keep (hg.block _ x4.lt (fun e => by injection e with e; omega))⟩⟩
    have HCP : Hid (S2.length ≤ 1 ∧ 1 ≤ maxLen ∧ M ≤ M + 3) := ⟨H5.out.2.2.2.2.2.1, H5.out.2.2.2.2.2.2, by have := H5.out.2.2.2.1; omega⟩
    clear c2 f2 c3 f3 H5
    first | (clear c1 f1) | skip
    generalize (w5.setCell ⟨M, 2, none⟩ (.int .i64 (N : Nat))).setCell ⟨M, 3, none⟩ (.int .i64 (K : Nat)) = w7 at H7 ⊢
    obtain ⟨D2, HD2⟩ : ∃ z : List Value, Hid ([.int .u16 (sn : Nat), .slice (some ⟨M + 3, 0, none⟩) S2.length 1, .int .i64 (N : Nat), .int .i64 (K : Nat), .bool false, .slice ra rl rc] = z) := ⟨_, rfl⟩
    have HD6 : Hid (D2.length = 6 ∧ ∀ v ∈ D2, v.oneCell' = true) := by
      rw [← HD2.out]
      refine ⟨rfl, fun v hv => ?_⟩
      simp at hv
      rcases hv with rfl | rfl | rfl | rfl | rfl | rfl <;> rfl
    have hiD : (Tryd.prog.info? 25).map (·.size) = some D2.length := by rw [HD6.out.1]; kernel_rfl
    rw [HD2.out] at H7
    have HC7 : Hid (∀ u, Bx u M 25 D2 → u.cell? ⟨M, 0, none⟩ = some (.int .u16 (sn : Nat)) ∧ u.cell? ⟨M, 1, none⟩ = some (.slice (some ⟨M + 3, 0, none⟩) S2.length 1) ∧ u.cell? ⟨M, 2, none⟩ = some (.int .i64 (N : Nat)) ∧ u.cell? ⟨M, 3, none⟩ = some (.int .i64 (K : Nat))) := fun u hu => by
      rw [← HD2.out] at hu
      exact ⟨hu.cell 0 _ rfl, hu.cell 1 _ rfl, hu.cell 2 _ rfl, hu.cell 3 _ rfl⟩
    have H13 : Hid (∀ u, Below M w u → Calls Tryd.prog 13 #[.agg D2.toArray] u fun e w' => Hid (∃ v, e = .returned v ∧ Vf w' v R ∧ Below u.heap.size u w')) := fun u hu => by
      rw [← HD2.out, ← HRR.out]
      exact (random5_ok (sn : Int) (N : Nat) (K : Nat) false (some ⟨M + 3, 0, none⟩) ra S2.length 1 rl rc Rd u HRd.out (hr.out.below (by rw [HMM.out]; exact hu))).mono fun e w' hh => hh
    have H12 : Hid (∀ u v, Below M w u → Vf u v R → Rx u (M + 3) S2 → Calls Tryd.prog 12 #[.int .u16 (sn : Nat), .slice (some ⟨M + 3, 0, none⟩) S2.length 1, .int .i64 (N : Nat), .int .i64 (K : Nat), v] u fun e w' => Hid (∃ tg, e = .returned (.tuple #[.slice (some ⟨tg, 0, none⟩) K K, .int .i64 0]) ∧ u.heap.size ≤ tg ∧ Bx w' tg 9 (tcs T K) ∧ Below u.heap.size u w')) := fun u v hu hv hx => by
      have hvs : Vf u (.slice (some ⟨M + 3, 0, none⟩) S2.length 1) S2 := vf_mk rfl HCP.out.1 HCP.out.2.1 (fun e => by cases e) (.inr ⟨_, _, rfl, hx.rw⟩)
      have z := deal_any sn hsn.out (N : Nat) (K : Nat) _ v S2 R u (hT.out.below hu (by rw [← HMM.out]; exact hT.out.size)) hvs hv
      rw [HER.out, HKK.out, show ((N : Nat) : Int).toNat = N from rfl, HTT.out] at z
      refine z.mono ?_
      rintro e w' ⟨v', rfl, h1, h2⟩
      rcases h1 with ⟨h0, _⟩ | ⟨tg, rfl, h3, h4⟩
      · exact absurd h0 (by have := HNK.out; omega)
      · exact ⟨tg, rfl, h3, h4, h2⟩
    have H11 : Hid (∀ u, Calls Tryd.prog 11 #[.int .i64 0] u fun e w' => e = .returned (.int .i64 0) ∧ w' = u) := fun u => numE_ok 0 u
    have hS0 : Bx w7.drew M 25 D2 ∧ Bx w7.drew (M + 1) 25 Z25 ∧ Below M w w7.drew ∧ Rx w7.drew (M + 3) S2 := by
      obtain ⟨x1, x2, x3, sp, x4⟩ := H7.out
      exact ⟨x1.keep rfl, x2.keep rfl, x3.drew, sp, x4.keep rfl⟩
    refine wp_region_noPanic ?_
    refine wp_region_held_drew (S := (fun u => Bx u M 25 D2 ∧ Bx u (M + 1) 25 Z25 ∧ Below M w u ∧ Rx u (M + 3) S2)) (by kernel_rfl) (hS0) (fun _ => ?_)
    refine takeH_at 0 37 (.pointer (some ⟨M, 0, none⟩)) rfl rfl (by kernel_rfl) (by kernel_rfl) (by kernel_rfl) (fun _ _ _ h => h) (hS0) (Or.inl ⟨by rfl, fun w' hS' => by obtain ⟨k0, k1, k2, k3⟩ := HC7.out _ hS'.1; go_simp⟩) ?_
    try simp only [List.setIfInBounds_toArray, List.set_cons_zero, List.set_cons_succ]
    refine takeH_at 1 38 (.int .u16 (sn : Nat)) rfl rfl (by kernel_rfl) (by kernel_rfl) (by kernel_rfl) (fun _ _ _ h => h) (hS0) (Or.inl ⟨by rfl, fun w' hS' => by obtain ⟨k0, k1, k2, k3⟩ := HC7.out _ hS'.1; go_simp⟩) ?_
    try simp only [List.setIfInBounds_toArray, List.set_cons_zero, List.set_cons_succ]
    refine takeH_at 2 39 (.pointer (some ⟨M, 1, none⟩)) rfl rfl (by kernel_rfl) (by kernel_rfl) (by kernel_rfl) (fun _ _ _ h => h) (hS0) (Or.inl ⟨by rfl, fun w' hS' => by obtain ⟨k0, k1, k2, k3⟩ := HC7.out _ hS'.1; go_simp⟩) ?_
    try simp only [List.setIfInBounds_toArray, List.set_cons_zero, List.set_cons_succ]
    refine takeH_at 3 40 (.slice (some ⟨M + 3, 0, none⟩) S2.length 1) rfl rfl (by kernel_rfl) (by kernel_rfl) (by kernel_rfl) (fun _ _ _ h => h) (hS0) (Or.inl ⟨by rfl, fun w' hS' => by obtain ⟨k0, k1, k2, k3⟩ := HC7.out _ hS'.1; go_simp⟩) ?_
    try simp only [List.setIfInBounds_toArray, List.set_cons_zero, List.set_cons_succ]
    refine takeH_at 4 41 (.pointer (some ⟨M, 2, none⟩)) rfl rfl (by kernel_rfl) (by kernel_rfl) (by kernel_rfl) (fun _ _ _ h => h) (hS0) (Or.inl ⟨by rfl, fun w' hS' => by obtain ⟨k0, k1, k2, k3⟩ := HC7.out _ hS'.1; go_simp⟩) ?_
    try simp only [List.setIfInBounds_toArray, List.set_cons_zero, List.set_cons_succ]
    refine takeH_at 5 42 (.int .i64 (N : Nat)) rfl rfl (by kernel_rfl) (by kernel_rfl) (by kernel_rfl) (fun _ _ _ h => h) (hS0) (Or.inl ⟨by rfl, fun w' hS' => by obtain ⟨k0, k1, k2, k3⟩ := HC7.out _ hS'.1; go_simp⟩) ?_
    try simp only [List.setIfInBounds_toArray, List.set_cons_zero, List.set_cons_succ]
    refine takeH_at 6 43 (.pointer (some ⟨M, 3, none⟩)) rfl rfl (by kernel_rfl) (by kernel_rfl) (by kernel_rfl) (fun _ _ _ h => h) (hS0) (Or.inl ⟨by rfl, fun w' hS' => by obtain ⟨k0, k1, k2, k3⟩ := HC7.out _ hS'.1; go_simp⟩) ?_
    try simp only [List.setIfInBounds_toArray, List.set_cons_zero, List.set_cons_succ]
    refine takeH_at 7 44 (.int .i64 (K : Nat)) rfl rfl (by kernel_rfl) (by kernel_rfl) (by kernel_rfl) (fun _ _ _ h => h) (hS0) (Or.inl ⟨by rfl, fun w' hS' => by obtain ⟨k0, k1, k2, k3⟩ := HC7.out _ hS'.1; go_simp⟩) ?_
    try simp only [List.setIfInBounds_toArray, List.set_cons_zero, List.set_cons_succ]
    refine takeH_at 8 45 (.agg D2.toArray) rfl rfl (by kernel_rfl) (by kernel_rfl) (by kernel_rfl) (fun _ _ _ h => h) (hS0) (yieldsIf_load_mid (by rfl) 25 (.tmp 1) rfl M 0 rfl D2 _ (fun u hu => hu.1.range) Tryd.underlying25 rfl hiD) ?_
    try simp only [List.setIfInBounds_toArray, List.set_cons_zero, List.set_cons_succ]
    refine wpAnyH_ready (rs := [9]) (by kernel_rfl) (by simp) ?_
    refine AllReadyH.cons rfl (fun KK hK => ?_) AllReadyH.nil
    go_simp
    refine (H13.out _ hS0.2.2.1).mono ?_
    intro e q1 hh
    obtain ⟨vr, rfl, hv, hb⟩ := hh.out
    have HQ1 : Hid (Bx q1 M 25 D2 ∧ Bx q1 (M + 1) 25 Z25 ∧ Below M w q1 ∧ Rx q1 (M + 3) S2) := ⟨hS0.1.below hb, hS0.2.1.below hb, hS0.2.2.1.trans (hb.mono (Nat.le_of_lt hS0.1.lt)), hS0.2.2.2.below hb⟩
    have HVR : Hid (Vf q1 vr R) := hv
    clear hh hb hv
    go_wp2_with fail
    refine hK.out _ _ (HQ1.out) (fun _ => ?_)
    clear hK KK
    try simp only [List.setIfInBounds_toArray, List.set_cons_zero, List.set_cons_succ]
    refine wpAnyH_ready (rs := [10]) (by kernel_rfl) (by simp) ?_
    refine AllReadyH.cons rfl (fun KK hK => ?_) AllReadyH.nil
    go_simp
    refine (H12.out _ _ HQ1.out.2.2.1 HVR.out HQ1.out.2.2.2).mono ?_
    intro e q2 hh
    obtain ⟨tg, rfl, hge, hv, hb⟩ := hh.out
    have HQ2 : Hid (Bx q2 M 25 D2 ∧ Bx q2 (M + 1) 25 Z25 ∧ Below M w q2 ∧ Rx q2 (M + 3) S2) := ⟨HQ1.out.1.below hb, HQ1.out.2.1.below hb, HQ1.out.2.2.1.trans (hb.mono (Nat.le_of_lt HQ1.out.1.lt)), HQ1.out.2.2.2.below hb⟩
    have HTG : Hid (Bx q2 tg 9 (tcs T K) ∧ M ≤ tg) := ⟨hv, Nat.le_trans (Nat.le_of_lt HQ1.out.1.lt) hge⟩
    clear hh hb hv hge
    go_wp2_with fail
    refine hK.out _ _ (HQ2.out) (fun _ => ?_)
    clear hK KK
    try simp only [List.setIfInBounds_toArray, List.set_cons_zero, List.set_cons_succ]
    refine takeH_at 11 36 (.tuple #[.slice (some ⟨tg, 0, none⟩) K K, .int .i64 0]) rfl rfl (by kernel_rfl) (by kernel_rfl) (by kernel_rfl) (fun _ _ _ h => h) (HQ2.out) (Or.inl ⟨by rfl, fun w' hS' => by go_simp⟩) ?_
    try simp only [List.setIfInBounds_toArray, List.set_cons_zero, List.set_cons_succ]
    refine takeH_at 12 48 (.slice (some ⟨tg, 0, none⟩) K K) rfl rfl (by kernel_rfl) (by kernel_rfl) (by kernel_rfl) (fun _ _ _ h => h) (HQ2.out) (Or.inl ⟨by rfl, fun w' hS' => by go_simp⟩) ?_
    try simp only [List.setIfInBounds_toArray, List.set_cons_zero, List.set_cons_succ]
    refine takeH_at 13 49 (.int .i64 0) rfl rfl (by kernel_rfl) (by kernel_rfl) (by kernel_rfl) (fun _ _ _ h => h) (HQ2.out) (Or.inl ⟨by rfl, fun w' hS' => by go_simp⟩) ?_
    try simp only [List.setIfInBounds_toArray, List.set_cons_zero, List.set_cons_succ]
    refine wpAnyH_ready (rs := [14]) (by kernel_rfl) (by simp) ?_
    refine AllReadyH.cons rfl (fun KK hK => ?_) AllReadyH.nil
    go_simp
    refine hK.out _ _ (HQ2.out) (fun _ => ?_)
    clear hK KK
    try simp only [List.setIfInBounds_toArray, List.set_cons_zero, List.set_cons_succ]
    refine wpAnyH_ready (rs := [15]) (by kernel_rfl) (by simp) ?_
    refine AllReadyH.cons rfl (fun KK hK => ?_) AllReadyH.nil
    go_simp
    refine hK.out _ _ (HQ2.out) (fun _ => ?_)
    clear hK KK
    try simp only [List.setIfInBounds_toArray, List.set_cons_zero, List.set_cons_succ]
    refine wpAnyH_done (by kernel_rfl) ?_ _
    refine NoPanic.normal ?_
    have H8 : Hid (Bx q2 M 25 D2 ∧ Bx q2 (M + 1) 25 Z25 ∧ Below M w q2 ∧ Rx q2 (M + 3) S2) := HQ2.out
    go_upto_region 8 with fail
    have hZ8 : Bx q2.drew (M + 1) 25 Z25 := H8.out.2.1.keep rfl
    have hS8 : Bx q2.drew M 25 D2 ∧ ∃ z, Bx q2.drew (M + 1) 25 z := ⟨H8.out.1.keep rfl, _, hZ8⟩
    refine wp_region_noPanic ?_
    refine wp_region_held_drew (S := (fun u => Bx u M 25 D2 ∧ ∃ z, Bx u (M + 1) 25 z)) (by kernel_rfl) (hS8) (fun _ => ?_)
    refine takeH_at 0 50 (.agg D2.toArray) rfl rfl (by kernel_rfl) (by kernel_rfl) (by kernel_rfl) (fun _ _ _ h => h) (hS8) (yieldsIf_load_mid (by rfl) 25 (.tmp 1) rfl M 0 rfl D2 _ (fun u hu => hu.1.range) Tryd.underlying25 rfl hiD) ?_
    try simp only [List.setIfInBounds_toArray, List.set_cons_zero, List.set_cons_succ]
    refine takeH_at 1 51 (.slice (some ⟨tg, 0, none⟩) K K) rfl rfl (by kernel_rfl) (by kernel_rfl) (by kernel_rfl) (fun _ _ _ h => h) (hS8) (Or.inl ⟨by rfl, fun w' hS' => by go_simp⟩) ?_
    try simp only [List.setIfInBounds_toArray, List.set_cons_zero, List.set_cons_succ]
    refine takeH_at 2 52 (.int .i64 0) rfl rfl (by kernel_rfl) (by kernel_rfl) (by kernel_rfl) (fun _ _ _ h => h) (hS8) (Or.inl ⟨by rfl, fun w' hS' => by go_simp⟩) ?_
    try simp only [List.setIfInBounds_toArray, List.set_cons_zero, List.set_cons_succ]
    refine wpAnyH_ready (rs := [3]) (by kernel_rfl) (by simp) ?_
    refine AllReadyH.cons rfl (fun KK hK => ?_) AllReadyH.nil
    go_simp
    refine (H11.out _).mono ?_
    rintro e q3 ⟨rfl, hw⟩
    obtain rfl := hw.symm
    clear hw
    go_wp2_with fail
    refine hK.out _ _ (hS8) (fun _ => ?_)
    clear hK KK
    try simp only [List.setIfInBounds_toArray, List.set_cons_zero, List.set_cons_succ]
    refine takeH_at 4 54 (.bool true) rfl rfl (by kernel_rfl) (by kernel_rfl) (by kernel_rfl) (fun _ _ _ h => h) (hS8) (Or.inl ⟨by rfl, fun w' hS' => by go_simp⟩) ?_
    try simp only [List.setIfInBounds_toArray, List.set_cons_zero, List.set_cons_succ]
    refine takeH_at 5 55 (.bool true) rfl rfl (by kernel_rfl) (by kernel_rfl) (by kernel_rfl) (fun _ _ _ h => h) (hS8) (Or.inl ⟨by rfl, fun w' hS' => by go_simp⟩) ?_
    try simp only [List.setIfInBounds_toArray, List.set_cons_zero, List.set_cons_succ]
    refine takeH_at 6 56 (.slice (some ⟨tg, 0, none⟩) K K) rfl rfl (by kernel_rfl) (by kernel_rfl) (by kernel_rfl) (fun _ _ _ h => h) (hS8) (Or.inl ⟨by rfl, fun w' hS' => by go_simp⟩) ?_
    try simp only [List.setIfInBounds_toArray, List.set_cons_zero, List.set_cons_succ]
    refine takeH_at 7 57 (.int .i64 (K : Nat)) rfl rfl (by kernel_rfl) (by kernel_rfl) (by kernel_rfl) (fun _ _ _ h => h) (hS8) (Or.inl ⟨by rfl, fun w' hS' => by go_simp⟩) ?_
    try simp only [List.setIfInBounds_toArray, List.set_cons_zero, List.set_cons_succ]
    refine takeH_at 8 58 (.pointer (some ⟨M, 3, none⟩)) rfl rfl (by kernel_rfl) (by kernel_rfl) (by kernel_rfl) (fun _ _ _ h => h) (hS8) (Or.inl ⟨by rfl, fun w' hS' => by go_simp⟩) ?_
    try simp only [List.setIfInBounds_toArray, List.set_cons_zero, List.set_cons_succ]
    refine takeH_at 9 59 (.int .i64 (K : Nat)) rfl rfl (by kernel_rfl) (by kernel_rfl) (by kernel_rfl) (fun _ _ _ h => h) (hS8) (Or.inl ⟨by rfl, fun w' hS' => by obtain ⟨k0, k1, k2, k3⟩ := HC7.out _ hS'.1; go_simp⟩) ?_
    try simp only [List.setIfInBounds_toArray, List.set_cons_zero, List.set_cons_succ]
    refine takeH_at 10 60 (.bool true) rfl rfl (by kernel_rfl) (by kernel_rfl) (by kernel_rfl) (fun _ _ _ h => h) (hS8) (Or.inl ⟨by rfl, fun w' hS' => by go_simp⟩) ?_
    try simp only [List.setIfInBounds_toArray, List.set_cons_zero, List.set_cons_succ]
    refine takeH_at 11 61 (.bool true) rfl rfl (by kernel_rfl) (by kernel_rfl) (by kernel_rfl) (fun _ _ _ h => h) (hS8) (Or.inl ⟨by rfl, fun w' hS' => by go_simp⟩) ?_
    try simp only [List.setIfInBounds_toArray, List.set_cons_zero, List.set_cons_succ]
    refine wpAnyH_ready (rs := [12]) (by kernel_rfl) (by simp) ?_
    refine AllReadyH.cons rfl (fun KK hK => ?_) AllReadyH.nil
    refine step_store_bx rfl 25 (.tmp 2) (.tmp 50) rfl Z25 D2 (M + 1) rfl rfl hZ8 (by rw [HD6.out.1]; rfl) hiD HD6.out.2 ?_
    intro u9 HB9 HG9
    have H9 : Hid (Bx u9 M 25 D2 ∧ Bx u9 (M + 1) 25 D2 ∧ Below M w u9 ∧ Rx u9 (M + 3) S2 ∧ Bx u9 tg 9 (tcs T K)) := by
      have hn : ∀ b, b ≠ M + 1 → some b ≠ some (M + 1) := fun b hb e => hb (by injection e)
      obtain ⟨sp, x4⟩ := H8.out.2.2.2
      have hne : ∀ {b t cs}, t ≠ 25 → Bx q2 b t cs → b ≠ M + 1 := fun ht hbx e => by
        subst e
        have a1 := H8.out.2.1
        unfold Bx at hbx a1
        rw [hbx] at a1
        injection a1 with z
        injection z with _ z _
        exact ht z
      exact ⟨hS8.1.keep (HG9.out.block M hS8.1.lt (hn M (by omega))), HB9.out, (H8.out.2.2.1.drew).trans (below_gb HG9.out (Nat.le_of_lt hS8.1.lt) (Nat.le_succ _)), ⟨sp, (x4.keep (w' := q2.drew) rfl).keep (HG9.out.block _ (show _ < q2.heap.size from x4.lt) (hn _ (hne (by decide) x4)))⟩, (HTG.out.1.keep (w' := q2.drew) rfl).keep (HG9.out.block _ (show _ < q2.heap.size from HTG.out.1.lt) (hn _ (hne (by decide) HTG.out.1)))⟩
    clear HB9 HG9
    refine hK.out _ _ (⟨H9.out.1, _, H9.out.2.1⟩) (fun _ => ?_)
    clear hK KK
    try simp only [List.setIfInBounds_toArray, List.set_cons_zero, List.set_cons_succ]
    refine wpAnyH_ready (rs := [13]) (by kernel_rfl) (by simp) ?_
    refine AllReadyH.cons rfl (fun KK hK => ?_) AllReadyH.nil
    go_simp
    refine hK.out _ _ (⟨H9.out.1, _, H9.out.2.1⟩) (fun _ => ?_)
    clear hK KK
    try simp only [List.setIfInBounds_toArray, List.set_cons_zero, List.set_cons_succ]
    refine wpAnyH_ready (rs := [14]) (by kernel_rfl) (by simp) ?_
    refine AllReadyH.cons rfl (fun KK hK => ?_) AllReadyH.nil
    go_simp
    refine hK.out _ _ (⟨H9.out.1, _, H9.out.2.1⟩) (fun _ => ?_)
    clear hK KK
    try simp only [List.setIfInBounds_toArray, List.set_cons_zero, List.set_cons_succ]
    refine wpAnyH_done (by kernel_rfl) ?_ _
    refine NoPanic.normal ?_
    go_wp2
    refine ret_agg_tmp2 (b := M + 1) D2 _ _ rfl rfl rfl rfl H9.out.2.1.range Tryd.underlying25 rfl hiD ?_
    refine ⟨M + 3, 1, tg, ?_, HCP.out.1, HCP.out.2.1, HCP.out.2.2, H9.out.2.2.2.1, HTG.out.2, H9.out.2.2.2.2, H9.out.2.2.1⟩
    rw [← HD2.out]
    rfl
  · have HS0 : Hid (S2 = S.take 64) := by show _ = _; rw [← HS2.out]; unfold sec5; rw [if_neg hS]
    have H14' : Hid (Calls Tryd.prog 14 #[sv, .int .i64 64] (w2.alloc (.cells #[] 5)) fun e w' => ∃ v, e = .returned v ∧ Vf (w2.alloc (.cells #[] 5)) v S2 ∧ w' = w2.alloc (.cells #[] 5)) := by rw [HS0.out]; exact H14.out
    clear H14
    clear hS
    go_upto_region 3 with (first
      | (go_at_call 14; refine H14'.out.mono ?_; intro e4 w4 h4; obtain ⟨v4, rfl, h5, hw⟩ := h4; obtain rfl := hw.symm; obtain ⟨a4, c4, rfl, q1, q2, q3, q4⟩ := h5.parts; obtain ⟨b4, o4, rfl, q5⟩ := (q4.resolve_left (fun e => by have := HSL.out.1; rw [e] at this; simp at this)); clear h5 hw q4 q3)
      | (refine wpList_clone_own (by rfl) (.tmp 8) (.tmp 11) (by rfl) (M + 2) (by rfl) H3.out.2.1 b4 o4 S2.length c4 S2 (by rfl) rfl HSL.out.1 (by have := HSL.out; omega) q5 ?_; intro v5 w5 ho hb; obtain ⟨g5, c5, rfl, hx⟩ := own_rc ho HSL.out.1; have hbz : Below (M + 2) w2 w5 := H3.out.1.trans hb; have H5 : Hid (Bx w5 M 25 [.int .u16 (sn : Nat), sv, .int .i64 nd, .int .i64 ct, .bool false, .slice ra rl rc] ∧ Bx w5 (M + 1) 25 Z25 ∧ Below M w w5 ∧ Rx w5 g5 S2 ∧ M + 2 ≤ g5 ∧ S2.length ≤ c5 ∧ c5 ≤ maxLen) := ⟨H2.out.1.keep (hbz.block M (by omega)), H2.out.2.1.keep (hbz.block (M + 1) (by omega)), H2.out.2.2.1.trans (hbz.mono (by omega)), hx.out⟩; have c1' := H5.out.1.cell 1 _ rfl; have f1' := H5.out.1.frozen 1; clear hx hbz hb ho)
      | fail)
    obtain ⟨w6, hw6⟩ : ∃ u, u = w5.setCell ⟨M, 1, none⟩ (.slice (some ⟨g5, 0, none⟩) S2.length c5) := ⟨_, rfl⟩
    rw [← hw6]
    have H6 : Hid (Bx w6 M 25 [.int .u16 (sn : Nat), .slice (some ⟨g5, 0, none⟩) S2.length c5, .int .i64 nd, .int .i64 ct, .bool false, .slice ra rl rc] ∧ Bx w6 (M + 1) 25 Z25 ∧ Below M w w6 ∧ M + 2 ≤ g5 ∧ Rx w6 g5 S2 ∧ S2.length ≤ c5 ∧ c5 ≤ maxLen) := by
      have hg : w5.grownBy w6 (some M) := by rw [hw6]; exact set_gb _ _ _ _
      obtain ⟨x1, x2, x3, ⟨sp, x4⟩, x5, x6, x7⟩ := H5.out
      refine ⟨by rw [hw6]; exact x1.set 1 _, x2.keep (hg.block (M + 1) x2.lt (fun e => by injection e with e; omega)), by rw [hw6]; exact x3.setCell (Nat.le_refl _) _, x5, ⟨sp, x4.keep (hg.block g5 x4.lt (fun e => by injection e with e; omega))⟩, x6, x7⟩
    clear hw6 c1 f1 hfr c1' f1' H5
    have c1 := H6.out.1.cell 1 _ rfl
    have f1 := H6.out.1.frozen 1
    have g0 : ¬ ((S2.length : Int) = 0) := by have := HSL.out; omega
    go_upto_region 5 with fail
    have c2 := H6.out.1.cell 2 _ rfl
    have f2 := H6.out.1.frozen 2
    have c3 := H6.out.1.cell 3 _ rfl
    have f3 := H6.out.1.frozen 3
    go_upto_region 7 with fail
    rw [HN16.out, HK9.out]
    have H7 : Hid (Bx ((w6.setCell ⟨M, 2, none⟩ (.int .i64 (N : Nat))).setCell ⟨M, 3, none⟩ (.int .i64 (K : Nat))) M 25 [.int .u16 (sn : Nat), .slice (some ⟨g5, 0, none⟩) S2.length c5, .int .i64 (N : Nat), .int .i64 (K : Nat), .bool false, .slice ra rl rc] ∧ Bx ((w6.setCell ⟨M, 2, none⟩ (.int .i64 (N : Nat))).setCell ⟨M, 3, none⟩ (.int .i64 (K : Nat))) (M + 1) 25 Z25 ∧ Below M w ((w6.setCell ⟨M, 2, none⟩ (.int .i64 (N : Nat))).setCell ⟨M, 3, none⟩ (.int .i64 (K : Nat))) ∧ Rx ((w6.setCell ⟨M, 2, none⟩ (.int .i64 (N : Nat))).setCell ⟨M, 3, none⟩ (.int .i64 (K : Nat))) (g5) S2) := by
      have hg : w6.grownBy ((w6.setCell ⟨M, 2, none⟩ (.int .i64 (N : Nat))).setCell ⟨M, 3, none⟩ (.int .i64 (K : Nat))) (some M) := (set_gb _ _ _ _).trans (set_gb _ _ _ _)
      obtain ⟨x1, x2, x3, x5, ⟨sp, x4⟩, x6, x7⟩ := H6.out
      exact ⟨(x1.set 2 _).set 3 _, x2.keep (hg.block (M + 1) x2.lt (fun e => by injection e with e; omega)), (x3.setCell (Nat.le_refl _) _).setCell (Nat.le_refl _) _, ⟨sp, x4.keep (hg.block _ x4.lt (fun e => by injection e with e; omega))⟩⟩
    have HCP : Hid (S2.length ≤ c5 ∧ c5 ≤ maxLen ∧ M ≤ g5) := ⟨H6.out.2.2.2.2.2.1, H6.out.2.2.2.2.2.2, by have := H6.out.2.2.2.1; omega⟩
    clear c2 f2 c3 f3 H6
    first | (clear c1 f1) | skip
    generalize (w6.setCell ⟨M, 2, none⟩ (.int .i64 (N : Nat))).setCell ⟨M, 3, none⟩ (.int .i64 (K : Nat)) = w7 at H7 ⊢
    obtain ⟨D2, HD2⟩ : ∃ z : List Value, Hid ([.int .u16 (sn : Nat), .slice (some ⟨g5, 0, none⟩) S2.length c5, .int .i64 (N : Nat), .int .i64 (K : Nat), .bool false, .slice ra rl rc] = z) := ⟨_, rfl⟩
    have HD6 : Hid (D2.length = 6 ∧ ∀ v ∈ D2, v.oneCell' = true) := by
      rw [← HD2.out]
      refine ⟨rfl, fun v hv => ?_⟩
      simp at hv
      rcases hv with rfl | rfl | rfl | rfl | rfl | rfl <;> rfl
    have hiD : (Tryd.prog.info? 25).map (·.size) = some D2.length := by rw [HD6.out.1]; kernel_rfl
    rw [HD2.out] at H7
    have HC7 : Hid (∀ u, Bx u M 25 D2 → u.cell? ⟨M, 0, none⟩ = some (.int .u16 (sn : Nat)) ∧ u.cell? ⟨M, 1, none⟩ = some (.slice (some ⟨g5, 0, none⟩) S2.length c5) ∧ u.cell? ⟨M, 2, none⟩ = some (.int .i64 (N : Nat)) ∧ u.cell? ⟨M, 3, none⟩ = some (.int .i64 (K : Nat))) := fun u hu => by
      rw [← HD2.out] at hu
      exact ⟨hu.cell 0 _ rfl, hu.cell 1 _ rfl, hu.cell 2 _ rfl, hu.cell 3 _ rfl⟩
    have H13 : Hid (∀ u, Below M w u → Calls Tryd.prog 13 #[.agg D2.toArray] u fun e w' => Hid (∃ v, e = .returned v ∧ Vf w' v R ∧ Below u.heap.size u w')) := fun u hu => by
      rw [← HD2.out, ← HRR.out]
      exact (random5_ok (sn : Int) (N : Nat) (K : Nat) false (some ⟨g5, 0, none⟩) ra S2.length c5 rl rc Rd u HRd.out (hr.out.below (by rw [HMM.out]; exact hu))).mono fun e w' hh => hh
    have H12 : Hid (∀ u v, Below M w u → Vf u v R → Rx u (g5) S2 → Calls Tryd.prog 12 #[.int .u16 (sn : Nat), .slice (some ⟨g5, 0, none⟩) S2.length c5, .int .i64 (N : Nat), .int .i64 (K : Nat), v] u fun e w' => Hid (∃ tg, e = .returned (.tuple #[.slice (some ⟨tg, 0, none⟩) K K, .int .i64 0]) ∧ u.heap.size ≤ tg ∧ Bx w' tg 9 (tcs T K) ∧ Below u.heap.size u w')) := fun u v hu hv hx => by
      have hvs : Vf u (.slice (some ⟨g5, 0, none⟩) S2.length c5) S2 := vf_mk rfl HCP.out.1 HCP.out.2.1 (fun e => by cases e) (.inr ⟨_, _, rfl, hx.rw⟩)
      have z := deal_any sn hsn.out (N : Nat) (K : Nat) _ v S2 R u (hT.out.below hu (by rw [← HMM.out]; exact hT.out.size)) hvs hv
      rw [HER.out, HKK.out, show ((N : Nat) : Int).toNat = N from rfl, HTT.out] at z
      refine z.mono ?_
      rintro e w' ⟨v', rfl, h1, h2⟩
      rcases h1 with ⟨h0, _⟩ | ⟨tg, rfl, h3, h4⟩
      · exact absurd h0 (by have := HNK.out; omega)
      · exact ⟨tg, rfl, h3, h4, h2⟩
    have H11 : Hid (∀ u, Calls Tryd.prog 11 #[.int .i64 0] u fun e w' => e = .returned (.int .i64 0) ∧ w' = u) := fun u => numE_ok 0 u
    have hS0 : Bx w7.drew M 25 D2 ∧ Bx w7.drew (M + 1) 25 Z25 ∧ Below M w w7.drew ∧ Rx w7.drew (g5) S2 := by
      obtain ⟨x1, x2, x3, sp, x4⟩ := H7.out
      exact ⟨x1.keep rfl, x2.keep rfl, x3.drew, sp, x4.keep rfl⟩
    refine wp_region_noPanic ?_
    refine wp_region_held_drew (S := (fun u => Bx u M 25 D2 ∧ Bx u (M + 1) 25 Z25 ∧ Below M w u ∧ Rx u (g5) S2)) (by kernel_rfl) (hS0) (fun _ => ?_)
    refine takeH_at 0 37 (.pointer (some ⟨M, 0, none⟩)) rfl rfl (by kernel_rfl) (by kernel_rfl) (by kernel_rfl) (fun _ _ _ h => h) (hS0) (Or.inl ⟨by rfl, fun w' hS' => by obtain ⟨k0, k1, k2, k3⟩ := HC7.out _ hS'.1; go_simp⟩) ?_
    try simp only [List.setIfInBounds_toArray, List.set_cons_zero, List.set_cons_succ]
    refine takeH_at 1 38 (.int .u16 (sn : Nat)) rfl rfl (by kernel_rfl) (by kernel_rfl) (by kernel_rfl) (fun _ _ _ h => h) (hS0) (Or.inl ⟨by rfl, fun w' hS' => by obtain ⟨k0, k1, k2, k3⟩ := HC7.out _ hS'.1; go_simp⟩) ?_
    try simp only [List.setIfInBounds_toArray, List.set_cons_zero, List.set_cons_succ]
    refine takeH_at 2 39 (.pointer (some ⟨M, 1, none⟩)) rfl rfl (by kernel_rfl) (by kernel_rfl) (by kernel_rfl) (fun _ _ _ h => h) (hS0) (Or.inl ⟨by rfl, fun w' hS' => by obtain ⟨k0, k1, k2, k3⟩ := HC7.out _ hS'.1; go_simp⟩) ?_
    try simp only [List.setIfInBounds_toArray, List.set_cons_zero, List.set_cons_succ]
    refine takeH_at 3 40 (.slice (some ⟨g5, 0, none⟩) S2.length c5) rfl rfl (by kernel_rfl) (by kernel_rfl) (by kernel_rfl) (fun _ _ _ h => h) (hS0) (Or.inl ⟨by rfl, fun w' hS' => by obtain ⟨k0, k1, k2, k3⟩ := HC7.out _ hS'.1; go_simp⟩) ?_
    try simp only [List.setIfInBounds_toArray, List.set_cons_zero, List.set_cons_succ]
    refine takeH_at 4 41 (.pointer (some ⟨M, 2, none⟩)) rfl rfl (by kernel_rfl) (by kernel_rfl) (by kernel_rfl) (fun _ _ _ h => h) (hS0) (Or.inl ⟨by rfl, fun w' hS' => by obtain ⟨k0, k1, k2, k3⟩ := HC7.out _ hS'.1; go_simp⟩) ?_
    try simp only [List.setIfInBounds_toArray, List.set_cons_zero, List.set_cons_succ]
    refine takeH_at 5 42 (.int .i64 (N : Nat)) rfl rfl (by kernel_rfl) (by kernel_rfl) (by kernel_rfl) (fun _ _ _ h => h) (hS0) (Or.inl ⟨by rfl, fun w' hS' => by obtain ⟨k0, k1, k2, k3⟩ := HC7.out _ hS'.1; go_simp⟩) ?_
    try simp only [List.setIfInBounds_toArray, List.set_cons_zero, List.set_cons_succ]
    refine takeH_at 6 43 (.pointer (some ⟨M, 3, none⟩)) rfl rfl (by kernel_rfl) (by kernel_rfl) (by kernel_rfl) (fun _ _ _ h => h) (hS0) (Or.inl ⟨by rfl, fun w' hS' => by obtain ⟨k0, k1, k2, k3⟩ := HC7.out _ hS'.1; go_simp⟩) ?_
    try simp only [List.setIfInBounds_toArray, List.set_cons_zero, List.set_cons_succ]
    refine takeH_at 7 44 (.int .i64 (K : Nat)) rfl rfl (by kernel_rfl) (by kernel_rfl) (by kernel_rfl) (fun _ _ _ h => h) (hS0) (Or.inl ⟨by rfl, fun w' hS' => by obtain ⟨k0, k1, k2, k3⟩ := HC7.out _ hS'.1; go_simp⟩) ?_
    try simp only [List.setIfInBounds_toArray, List.set_cons_zero, List.set_cons_succ]
    refine takeH_at 8 45 (.agg D2.toArray) rfl rfl (by kernel_rfl) (by kernel_rfl) (by kernel_rfl) (fun _ _ _ h => h) (hS0) (yieldsIf_load_mid (by rfl) 25 (.tmp 1) rfl M 0 rfl D2 _ (fun u hu => hu.1.range) Tryd.underlying25 rfl hiD) ?_
    try simp only [List.setIfInBounds_toArray, List.set_cons_zero, List.set_cons_succ]
    refine wpAnyH_ready (rs := [9]) (by kernel_rfl) (by simp) ?_
    refine AllReadyH.cons rfl (fun KK hK => ?_) AllReadyH.nil
    go_simp
    refine (H13.out _ hS0.2.2.1).mono ?_
    intro e q1 hh
    obtain ⟨vr, rfl, hv, hb⟩ := hh.out
    have HQ1 : Hid (Bx q1 M 25 D2 ∧ Bx q1 (M + 1) 25 Z25 ∧ Below M w q1 ∧ Rx q1 (g5) S2) := ⟨hS0.1.below hb, hS0.2.1.below hb, hS0.2.2.1.trans (hb.mono (Nat.le_of_lt hS0.1.lt)), hS0.2.2.2.below hb⟩
    have HVR : Hid (Vf q1 vr R) := hv
    clear hh hb hv
    go_wp2_with fail
    refine hK.out _ _ (HQ1.out) (fun _ => ?_)
    clear hK KK
    try simp only [List.setIfInBounds_toArray, List.set_cons_zero, List.set_cons_succ]
    refine wpAnyH_ready (rs := [10]) (by kernel_rfl) (by simp) ?_
    refine AllReadyH.cons rfl (fun KK hK => ?_) AllReadyH.nil
    go_simp
    refine (H12.out _ _ HQ1.out.2.2.1 HVR.out HQ1.out.2.2.2).mono ?_
    intro e q2 hh
    obtain ⟨tg, rfl, hge, hv, hb⟩ := hh.out
    have HQ2 : Hid (Bx q2 M 25 D2 ∧ Bx q2 (M + 1) 25 Z25 ∧ Below M w q2 ∧ Rx q2 (g5) S2) := ⟨HQ1.out.1.below hb, HQ1.out.2.1.below hb, HQ1.out.2.2.1.trans (hb.mono (Nat.le_of_lt HQ1.out.1.lt)), HQ1.out.2.2.2.below hb⟩
    have HTG : Hid (Bx q2 tg 9 (tcs T K) ∧ M ≤ tg) := ⟨hv, Nat.le_trans (Nat.le_of_lt HQ1.out.1.lt) hge⟩
    clear hh hb hv hge
    go_wp2_with fail
    refine hK.out _ _ (HQ2.out) (fun _ => ?_)
    clear hK KK
    try simp only [List.setIfInBounds_toArray, List.set_cons_zero, List.set_cons_succ]
    refine takeH_at 11 36 (.tuple #[.slice (some ⟨tg, 0, none⟩) K K, .int .i64 0]) rfl rfl (by kernel_rfl) (by kernel_rfl) (by kernel_rfl) (fun _ _ _ h => h) (HQ2.out) (Or.inl ⟨by rfl, fun w' hS' => by go_simp⟩) ?_
    try simp only [List.setIfInBounds_toArray, List.set_cons_zero, List.set_cons_succ]
    refine takeH_at 12 48 (.slice (some ⟨tg, 0, none⟩) K K) rfl rfl (by kernel_rfl) (by kernel_rfl) (by kernel_rfl) (fun _ _ _ h => h) (HQ2.out) (Or.inl ⟨by rfl, fun w' hS' => by go_simp⟩) ?_
    try simp only [List.setIfInBounds_toArray, List.set_cons_zero, List.set_cons_succ]
    refine takeH_at 13 49 (.int .i64 0) rfl rfl (by kernel_rfl) (by kernel_rfl) (by kernel_rfl) (fun _ _ _ h => h) (HQ2.out) (Or.inl ⟨by rfl, fun w' hS' => by go_simp⟩) ?_
    try simp only [List.setIfInBounds_toArray, List.set_cons_zero, List.set_cons_succ]
    refine wpAnyH_ready (rs := [14]) (by kernel_rfl) (by simp) ?_
    refine AllReadyH.cons rfl (fun KK hK => ?_) AllReadyH.nil
    go_simp
    refine hK.out _ _ (HQ2.out) (fun _ => ?_)
    clear hK KK
    try simp only [List.setIfInBounds_toArray, List.set_cons_zero, List.set_cons_succ]
    refine wpAnyH_ready (rs := [15]) (by kernel_rfl) (by simp) ?_
    refine AllReadyH.cons rfl (fun KK hK => ?_) AllReadyH.nil
    go_simp
    refine hK.out _ _ (HQ2.out) (fun _ => ?_)
    clear hK KK
    try simp only [List.setIfInBounds_toArray, List.set_cons_zero, List.set_cons_succ]
    refine wpAnyH_done (by kernel_rfl) ?_ _
    refine NoPanic.normal ?_
    have H8 : Hid (Bx q2 M 25 D2 ∧ Bx q2 (M + 1) 25 Z25 ∧ Below M w q2 ∧ Rx q2 (g5) S2) := HQ2.out
    go_upto_region 8 with fail
    have hZ8 : Bx q2.drew (M + 1) 25 Z25 := H8.out.2.1.keep rfl
    have hS8 : Bx q2.drew M 25 D2 ∧ ∃ z, Bx q2.drew (M + 1) 25 z := ⟨H8.out.1.keep rfl, _, hZ8⟩
    refine wp_region_noPanic ?_
    refine wp_region_held_drew (S := (fun u => Bx u M 25 D2 ∧ ∃ z, Bx u (M + 1) 25 z)) (by kernel_rfl) (hS8) (fun _ => ?_)
    refine takeH_at 0 50 (.agg D2.toArray) rfl rfl (by kernel_rfl) (by kernel_rfl) (by kernel_rfl) (fun _ _ _ h => h) (hS8) (yieldsIf_load_mid (by rfl) 25 (.tmp 1) rfl M 0 rfl D2 _ (fun u hu => hu.1.range) Tryd.underlying25 rfl hiD) ?_
    try simp only [List.setIfInBounds_toArray, List.set_cons_zero, List.set_cons_succ]
    refine takeH_at 1 51 (.slice (some ⟨tg, 0, none⟩) K K) rfl rfl (by kernel_rfl) (by kernel_rfl) (by kernel_rfl) (fun _ _ _ h => h) (hS8) (Or.inl ⟨by rfl, fun w' hS' => by go_simp⟩) ?_
    try simp only [List.setIfInBounds_toArray, List.set_cons_zero, List.set_cons_succ]
    refine takeH_at 2 52 (.int .i64 0) rfl rfl (by kernel_rfl) (by kernel_rfl) (by kernel_rfl) (fun _ _ _ h => h) (hS8) (Or.inl ⟨by rfl, fun w' hS' => by go_simp⟩) ?_
    try simp only [List.setIfInBounds_toArray, List.set_cons_zero, List.set_cons_succ]
    refine wpAnyH_ready (rs := [3]) (by kernel_rfl) (by simp) ?_
    refine AllReadyH.cons rfl (fun KK hK => ?_) AllReadyH.nil
    go_simp
    refine (H11.out _).mono ?_
    rintro e q3 ⟨rfl, hw⟩
    obtain rfl := hw.symm
    clear hw
    go_wp2_with fail
    refine hK.out _ _ (hS8) (fun _ => ?_)
    clear hK KK
    try simp only [List.setIfInBounds_toArray, List.set_cons_zero, List.set_cons_succ]
    refine takeH_at 4 54 (.bool true) rfl rfl (by kernel_rfl) (by kernel_rfl) (by kernel_rfl) (fun _ _ _ h => h) (hS8) (Or.inl ⟨by rfl, fun w' hS' => by go_simp⟩) ?_
    try simp only [List.setIfInBounds_toArray, List.set_cons_zero, List.set_cons_succ]
    refine takeH_at 5 55 (.bool true) rfl rfl (by kernel_rfl) (by kernel_rfl) (by kernel_rfl) (fun _ _ _ h => h) (hS8) (Or.inl ⟨by rfl, fun w' hS' => by go_simp⟩) ?_
    try simp only [List.setIfInBounds_toArray, List.set_cons_zero, List.set_cons_succ]
    refine takeH_at 6 56 (.slice (some ⟨tg, 0, none⟩) K K) rfl rfl (by kernel_rfl) (by kernel_rfl) (by kernel_rfl) (fun _ _ _ h => h) (hS8) (Or.inl ⟨by rfl, fun w' hS' => by go_simp⟩) ?_
    try simp only [List.setIfInBounds_toArray, List.set_cons_zero, List.set_cons_succ]
    refine takeH_at 7 57 (.int .i64 (K : Nat)) rfl rfl (by kernel_rfl) (by kernel_rfl) (by kernel_rfl) (fun _ _ _ h => h) (hS8) (Or.inl ⟨by rfl, fun w' hS' => by go_simp⟩) ?_
    try simp only [List.setIfInBounds_toArray, List.set_cons_zero, List.set_cons_succ]
    refine takeH_at 8 58 (.pointer (some ⟨M, 3, none⟩)) rfl rfl (by kernel_rfl) (by kernel_rfl) (by kernel_rfl) (fun _ _ _ h => h) (hS8) (Or.inl ⟨by rfl, fun w' hS' => by go_simp⟩) ?_
    try simp only [List.setIfInBounds_toArray, List.set_cons_zero, List.set_cons_succ]
    refine takeH_at 9 59 (.int .i64 (K : Nat)) rfl rfl (by kernel_rfl) (by kernel_rfl) (by kernel_rfl) (fun _ _ _ h => h) (hS8) (Or.inl ⟨by rfl, fun w' hS' => by obtain ⟨k0, k1, k2, k3⟩ := HC7.out _ hS'.1; go_simp⟩) ?_
    try simp only [List.setIfInBounds_toArray, List.set_cons_zero, List.set_cons_succ]
    refine takeH_at 10 60 (.bool true) rfl rfl (by kernel_rfl) (by kernel_rfl) (by kernel_rfl) (fun _ _ _ h => h) (hS8) (Or.inl ⟨by rfl, fun w' hS' => by go_simp⟩) ?_
    try simp only [List.setIfInBounds_toArray, List.set_cons_zero, List.set_cons_succ]
    refine takeH_at 11 61 (.bool true) rfl rfl (by kernel_rfl) (by kernel_rfl) (by kernel_rfl) (fun _ _ _ h => h) (hS8) (Or.inl ⟨by rfl, fun w' hS' => by go_simp⟩) ?_
    try simp only [List.setIfInBounds_toArray, List.set_cons_zero, List.set_cons_succ]
    refine wpAnyH_ready (rs := [12]) (by kernel_rfl) (by simp) ?_
    refine AllReadyH.cons rfl (fun KK hK => ?_) AllReadyH.nil
    refine step_store_bx rfl 25 (.tmp 2) (.tmp 50) rfl Z25 D2 (M + 1) rfl rfl hZ8 (by rw [HD6.out.1]; rfl) hiD HD6.out.2 ?_
    intro u9 HB9 HG9
    have H9 : Hid (Bx u9 M 25 D2 ∧ Bx u9 (M + 1) 25 D2 ∧ Below M w u9 ∧ Rx u9 (g5) S2 ∧ Bx u9 tg 9 (tcs T K)) := by
      have hn : ∀ b, b ≠ M + 1 → some b ≠ some (M + 1) := fun b hb e => hb (by injection e)
      obtain ⟨sp, x4⟩ := H8.out.2.2.2
      have hne : ∀ {b t cs}, t ≠ 25 → Bx q2 b t cs → b ≠ M + 1 := fun ht hbx e => by
        subst e
        have a1 := H8.out.2.1
        unfold Bx at hbx a1
        rw [hbx] at a1
        injection a1 with z
        injection z with _ z _
        exact ht z
      exact ⟨hS8.1.keep (HG9.out.block M hS8.1.lt (hn M (by omega))), HB9.out, (H8.out.2.2.1.drew).trans (below_gb HG9.out (Nat.le_of_lt hS8.1.lt) (Nat.le_succ _)), ⟨sp, (x4.keep (w' := q2.drew) rfl).keep (HG9.out.block _ (show _ < q2.heap.size from x4.lt) (hn _ (hne (by decide) x4)))⟩, (HTG.out.1.keep (w' := q2.drew) rfl).keep (HG9.out.block _ (show _ < q2.heap.size from HTG.out.1.lt) (hn _ (hne (by decide) HTG.out.1)))⟩
    clear HB9 HG9
    refine hK.out _ _ (⟨H9.out.1, _, H9.out.2.1⟩) (fun _ => ?_)
    clear hK KK
    try simp only [List.setIfInBounds_toArray, List.set_cons_zero, List.set_cons_succ]
    refine wpAnyH_ready (rs := [13]) (by kernel_rfl) (by simp) ?_
    refine AllReadyH.cons rfl (fun KK hK => ?_) AllReadyH.nil
    go_simp
    refine hK.out _ _ (⟨H9.out.1, _, H9.out.2.1⟩) (fun _ => ?_)
    clear hK KK
    try simp only [List.setIfInBounds_toArray, List.set_cons_zero, List.set_cons_succ]
    refine wpAnyH_ready (rs := [14]) (by kernel_rfl) (by simp) ?_
    refine AllReadyH.cons rfl (fun KK hK => ?_) AllReadyH.nil
    go_simp
    refine hK.out _ _ (⟨H9.out.1, _, H9.out.2.1⟩) (fun _ => ?_)
    clear hK KK
    try simp only [List.setIfInBounds_toArray, List.set_cons_zero, List.set_cons_succ]
    refine wpAnyH_done (by kernel_rfl) ?_ _
    refine NoPanic.normal ?_
    go_wp2
    refine ret_agg_tmp2 (b := M + 1) D2 _ _ rfl rfl rfl rfl H9.out.2.1.range Tryd.underlying25 rfl hiD ?_
    refine ⟨g5, c5, tg, ?_, HCP.out.1, HCP.out.2.1, HCP.out.2.2, H9.out.2.2.2.1, HTG.out.2, H9.out.2.2.2.2, H9.out.2.2.1⟩
    rw [← HD2.out]
    rfl
end Go.Proofs.YtjcdhfkilnbjgaaDoor
namespace Go.Proofs.YtjcdhfkilnbjgaaDoor
open Go.RowKit
set_option linter.unusedVariables false
set_option linter.unusedSimpArgs false
set_option maxRecDepth 100000
def lvL : List F := [1, 2, 3]
def lvR : List F := [9, 8, 7, 6, 5, 4, 3]
def lvZ : Shg := shD 7 lvL lvR 2
def lvT : Nat → ByteArray := dealT 7 lvL lvR 2
theorem lvZ_ok : lvZ.ok := shD_ok 7 lvL lvR 2 (by decide) (by decide) (by decide) (by decide)
theorem lv_good (i : Nat) (hi : i < 255) : MGood (lvT i) (lvZ.at' (fN (i + 1))) 0 := by
  unfold lvT
  rw [dealT_at 7 lvL lvR 2 i (by decide)]
  exact Shg.good lvZ_ok _ (by rw [fN_val _ (by omega)]; omega)
/-- Shares of a sharing, by their numbers. -/
theorem lns_of {z : Shg} {T : Nat → ByteArray} (hz : z.ok) (hT : ∀ i, i < 255 → MGood (T i) (z.at' (fN (i + 1))) 0) (n : Nat) (f : Nat → Nat) (hf : ∀ i, i < n → f i < 255) : Lns z (fun i => T (f i)) n (fun i => fN (f i + 1)) :=
  ⟨hz, fun i hi => ⟨0, hT (f i) (hf i hi)⟩, fun i hi => by rw [fN_val _ (by have := hf i hi; omega)]; omega⟩
theorem lns_on {z : Shg} {T : Nat → ByteArray} (hz : z.ok) (hT : ∀ i, i < 255 → MGood (T i) (z.at' (fN (i + 1))) 0) (n : Nat) (f : Nat → Nat) (hf : ∀ i, i < n → f i < 255) (i : Nat) (hi : i < n) : ((gR (T (f i))).getD 3 0).1 = f i + 1 := by
  have e := (lns_of hz hT n f hf).eq i hi
  rw [e, z.at_3, fN_val _ (by have := hf i hi; omega)]
def lvF (i : Nat) : Nat := if i = 0 then 2 else 0
theorem lv_two : Lns lvZ (fun i => lvT (lvF i)) 2 (fun i => fN (lvF i + 1)) := lns_of lvZ_ok lv_good 2 lvF (fun i _ => by unfold lvF; split <;> omega)
theorem lv_one : Lns lvZ (fun _ => lvT 1) 1 (fun _ => fN 2) := lns_of lvZ_ok lv_good 1 (fun _ => 1) (fun i _ => by omega)
theorem lv_on2 : lvZ.bn.1 ≤ onN (fun i => gR (lvT (lvF i))) 2 := by
  refine Nat.le_trans (Nat.le_refl 2) (onN_ge [3, 1] (by decide) fun j hj => ?_)
  have hF : ∀ i, i < 2 → lvF i < 255 := fun i _ => by unfold lvF; split <;> omega
  simp only [List.mem_cons, List.not_mem_nil, or_false] at hj
  rcases hj with rfl | rfl
  · exact ⟨by omega, by omega, 0, by omega, lns_on lvZ_ok lv_good 2 lvF hF 0 (by omega)⟩
  · exact ⟨by omega, by omega, 1, by omega, lns_on lvZ_ok lv_good 2 lvF hF 1 (by omega)⟩
theorem lv_on1 : onN (fun _ => gR (lvT 1)) 1 < lvZ.bn.1 := by
  refine Nat.lt_of_le_of_lt (onN_le [2] fun k hk => ?_) (show 1 < 2 by omega)
  have e := lns_on lvZ_ok lv_good 1 (fun _ => 1) (fun i _ => by omega) 0 (by omega)
  rw [e]
  simp
theorem lvT_eq : dealT 7 lvL lvR (2 : Int).toNat = lvT := by unfold lvT; rw [show (2 : Int).toNat = 2 from rfl]
attribute [irreducible] lvT
set_option maxHeartbeats 3200000 in
/-- live. -/
theorem live_ok (w : World) (hT : Hid (Tables w)) : Calls Tryd.prog 9 #[] w fun e w' => Hid (e = .returned (.bool true) ∧ Below w.heap.size w w') := by
  obtain ⟨M, HMM⟩ : ∃ M, Hid (w.heap.size = M) := ⟨_, rfl⟩
  obtain ⟨w1, hw1⟩ : ∃ u, u = (w.alloc (.cells #[.int .u8 1, .int .u8 2, .int .u8 3] 5)).alloc (.cells #[.int .u8 9, .int .u8 8, .int .u8 7, .int .u8 6, .int .u8 5, .int .u8 4, .int .u8 3] 5) := ⟨_, rfl⟩
  have H1 : Hid (Bx w1 M 5 (fc lvL) ∧ Bx w1 (M + 1) 5 (fc lvR) ∧ Below M w w1 ∧ M ≤ w1.heap.size) := by
    have hb : Below M w (w.alloc (.cells #[.int .u8 1, .int .u8 2, .int .u8 3] 5)) := (Below.refl _ _).alloc (Nat.le_of_eq HMM.out.symm) _
    have h0 : (w.alloc (.cells #[.int .u8 1, .int .u8 2, .int .u8 3] 5)).heap.size = M + 1 := by rw [← HMM.out]; simp
    have hb2 : Below (M + 1) (w.alloc (.cells #[.int .u8 1, .int .u8 2, .int .u8 3] 5)) w1 := by rw [hw1]; exact (Below.refl _ _).alloc (Nat.le_of_eq h0.symm) _
    have hx : Bx (w.alloc (.cells #[.int .u8 1, .int .u8 2, .int .u8 3] 5)) M 5 (fc lvL) := by rw [← HMM.out]; exact Bx.new w 5 (fc lvL)
    refine ⟨hx.keep (hb2.block M (by omega)), ?_, hb.trans (hb2.mono (by omega)), ?_⟩
    · have z := Bx.new (w.alloc (.cells #[.int .u8 1, .int .u8 2, .int .u8 3] 5)) 5 (fc lvR)
      rw [h0] at z
      rw [hw1]
      exact z
    · rw [hw1, ← HMM.out, World.size_alloc, World.size_alloc]; omega
  have HTB : Hid (∀ u, Below M w u → Tables u) := fun u hu => hT.out.below hu (by rw [← HMM.out]; exact hT.out.size)
  obtain ⟨T, HTT⟩ : ∃ z, Hid (lvT = z) := ⟨_, rfl⟩
  have H12 : Hid (Calls Tryd.prog 12 #[.int .u16 7, .slice (some ⟨M, 0, none⟩) 3 3, .int .i64 2, .int .i64 3, .slice (some ⟨M + 1, 0, none⟩) 7 7] w1 fun e w' => Hid (∃ tg, e = .returned (.tuple #[.slice (some ⟨tg, 0, none⟩) 3 3, .int .i64 0]) ∧ w1.heap.size ≤ tg ∧ Bx w' tg 9 (tcs T 3) ∧ Below w1.heap.size w1 w')) := by
    have z := deal_any 7 (by decide) 2 3 (.slice (some ⟨M, 0, none⟩) 3 3) (.slice (some ⟨M + 1, 0, none⟩) 7 7) lvL lvR w1 (HTB.out w1 H1.out.2.2.1) (vf_mk rfl (by decide) (by unfold maxLen; omega) (fun e => by cases e) (.inr ⟨_, _, rfl, bx_rw H1.out.1⟩)) (vf_mk rfl (by decide) (by unfold maxLen; omega) (fun e => by cases e) (.inr ⟨_, _, rfl, bx_rw H1.out.2.1⟩))
    have e1 : dealE lvL.length 2 3 lvR.length = 0 := by decide +kernel
    have e2 : dealC lvL.length 2 3 lvR.length = 3 := by decide +kernel
    rw [e1, e2, lvT_eq, HTT.out] at z
    refine z.mono ?_
    rintro e w' ⟨v', rfl, h1, h2⟩
    rcases h1 with ⟨h0, _⟩ | ⟨tg, rfl, h3, h4⟩
    · exact absurd h0 (by decide)
    · exact ⟨tg, rfl, h3, h4, h2⟩
  have H11 : Hid (∀ x u, Calls Tryd.prog 11 #[.int .i64 x] u fun e w' => e = .returned (.int .i64 x) ∧ w' = u) := fun x u => numE_ok x u
  have HJ2 : Hid (∀ u g, Below M w u → Bx u g 9 [.string (T 2), .string (T 0)] → Calls Tryd.prog 10 #[.slice (some ⟨g, 0, none⟩) 2 2] u fun e w' => Hid (∃ b, e = .returned (.tuple #[.slice (some ⟨b, 0, none⟩) 3 3, .int .i64 0]) ∧ u.heap.size ≤ b ∧ Bx w' b 5 (fc lvL) ∧ Below u.heap.size u w')) := fun u g hu hg => by
    rw [← HTT.out] at hg
    refine (Join_ok (some ⟨g, 0, none⟩) 2 2 (fun i => lvT (lvF i)) u (show 2 ≤ 100000 by omega) (show ∀ i, i < 2 → _ from fun i hi => ⟨g, 0, rfl, ?_⟩) (HTB.out u hu)).mono fun e w' hh => ?_
    · match i, hi with
      | 0, _ => exact hg.cell 0 _ rfl
      | 1, _ => exact hg.cell 1 _ rfl
    · obtain ⟨b, h1, h2, h3, h4⟩ := lv_two.join lv_on2 hh
      exact ⟨b, h1, h2, h3, h4⟩
  have HJ1 : Hid (∀ u g, Below M w u → Bx u g 9 [.string (T 1)] → Calls Tryd.prog 10 #[.slice (some ⟨g, 0, none⟩) 1 1] u fun e w' => Hid (e = .returned (.tuple #[.slice none 0 0, .int .i64 114]) ∧ Below u.heap.size u w')) := fun u g hu hg => by
    rw [← HTT.out] at hg
    refine (Join_ok (some ⟨g, 0, none⟩) 1 1 (fun _ => lvT 1) u (show 1 ≤ 100000 by omega) (show ∀ i, i < 1 → _ from fun i hi => ⟨g, 0, rfl, ?_⟩) (HTB.out u hu)).mono fun e w' hh => lv_one.few lv_on1 hh
    obtain rfl : i = 0 := by omega
    exact hg.cell 0 _ rfl
  rw [HMM.out]
  go_enter Tryd.func9, Tryd.ntmps9
  go_upto_region 2 with (first
    | (go_at_call 12; rw [← hw1, HMM.out]; clear hw1; refine H12.out.mono ?_; intro e2 w2 hh; obtain ⟨tg, rfl, h1, h2, h3⟩ := hh.out; have H2 : Hid (Bx w2 tg 9 (tcs T 3) ∧ Below M w w2 ∧ M ≤ w2.heap.size) := ⟨h2, H1.out.2.2.1.trans (h3.mono H1.out.2.2.2), Nat.le_trans H1.out.2.2.2 h3.size⟩; clear hh h1 h2 h3)
    | fail)
  clear H12
  go_upto_region 4 with (first
    | (go_at_call 11; refine (H11.out _ _).mono ?_; rintro e1 wn ⟨rfl, hw⟩; obtain rfl := hw.symm; clear hw)
    | fail)
  have HC : Hid (∀ u, Bx u tg 9 (tcs T 3) → u.cell? ⟨tg, 0, none⟩ = some (.string (T 0)) ∧ u.cell? ⟨tg, 1, none⟩ = some (.string (T 1)) ∧ u.cell? ⟨tg, 2, none⟩ = some (.string (T 2))) := fun u hu => ⟨hu.cell 0 _ (tcs_at T 3 0 (by decide)), hu.cell 1 _ (tcs_at T 3 1 (by decide)), hu.cell 2 _ (tcs_at T 3 2 (by decide))⟩
  have hS0 : Bx w2.drew tg 9 (tcs T 3) ∧ Below M w w2.drew ∧ M ≤ w2.drew.heap.size := ⟨H2.out.1.keep rfl, H2.out.2.1.drew, H2.out.2.2⟩
  refine wp_region_noPanic ?_
  refine wp_region_held_drew (S := (fun u => Bx u tg 9 (tcs T 3) ∧ Below M w u ∧ M ≤ u.heap.size)) (by kernel_rfl) (hS0) (fun _ => ?_)
  refine takeH_at 0 22 (.slice (some ⟨tg, 0, none⟩) 3 3) rfl rfl (by kernel_rfl) (by kernel_rfl) (by kernel_rfl) (fun _ _ _ h => h) (hS0) (Or.inl ⟨by rfl, fun w' hS' => by obtain ⟨k0, k1, k2⟩ := HC.out _ hS'.1; go_simp⟩) ?_
  try simp only [List.setIfInBounds_toArray, List.set_cons_zero, List.set_cons_succ]
  refine takeH_at 1 23 (.pointer (some ⟨tg, 2, none⟩)) rfl rfl (by kernel_rfl) (by kernel_rfl) (by kernel_rfl) (fun _ _ _ h => h) (hS0) (Or.inl ⟨by rfl, fun w' hS' => by obtain ⟨k0, k1, k2⟩ := HC.out _ hS'.1; go_simp⟩) ?_
  try simp only [List.setIfInBounds_toArray, List.set_cons_zero, List.set_cons_succ]
  refine takeH_at 2 24 (.string (T 2)) rfl rfl (by kernel_rfl) (by kernel_rfl) (by kernel_rfl) (fun _ _ _ h => h) (hS0) (Or.inl ⟨by rfl, fun w' hS' => by obtain ⟨k0, k1, k2⟩ := HC.out _ hS'.1; go_simp⟩) ?_
  try simp only [List.setIfInBounds_toArray, List.set_cons_zero, List.set_cons_succ]
  refine takeH_at 3 25 (.slice (some ⟨tg, 0, none⟩) 3 3) rfl rfl (by kernel_rfl) (by kernel_rfl) (by kernel_rfl) (fun _ _ _ h => h) (hS0) (Or.inl ⟨by rfl, fun w' hS' => by obtain ⟨k0, k1, k2⟩ := HC.out _ hS'.1; go_simp⟩) ?_
  try simp only [List.setIfInBounds_toArray, List.set_cons_zero, List.set_cons_succ]
  refine takeH_at 4 26 (.pointer (some ⟨tg, 0, none⟩)) rfl rfl (by kernel_rfl) (by kernel_rfl) (by kernel_rfl) (fun _ _ _ h => h) (hS0) (Or.inl ⟨by rfl, fun w' hS' => by obtain ⟨k0, k1, k2⟩ := HC.out _ hS'.1; go_simp⟩) ?_
  try simp only [List.setIfInBounds_toArray, List.set_cons_zero, List.set_cons_succ]
  refine takeH_at 5 27 (.string (T 0)) rfl rfl (by kernel_rfl) (by kernel_rfl) (by kernel_rfl) (fun _ _ _ h => h) (hS0) (Or.inl ⟨by rfl, fun w' hS' => by obtain ⟨k0, k1, k2⟩ := HC.out _ hS'.1; go_simp⟩) ?_
  try simp only [List.setIfInBounds_toArray, List.set_cons_zero, List.set_cons_succ]
  refine wpAnyH_ready (rs := [6]) (by kernel_rfl) (by simp) ?_
  refine AllReadyH.cons rfl (fun KK hK => ?_) AllReadyH.nil
  go_simp
  obtain ⟨w3, hw3⟩ : ∃ u, u = w2.drew.alloc (.cells #[.string (T 2), .string (T 0)] 9) := ⟨_, rfl⟩
  have H3 : Hid ((Bx w3 tg 9 (tcs T 3) ∧ Below M w w3 ∧ M ≤ w3.heap.size) ∧ Bx w3 w2.heap.size 9 [.string (T 2), .string (T 0)]) := by
    have hb : Below w2.drew.heap.size w2.drew w3 := by rw [hw3]; exact (Below.refl _ _).alloc (Nat.le_refl _) _
    exact ⟨⟨hS0.1.below hb, hS0.2.1.trans (hb.mono hS0.2.2), Nat.le_trans hS0.2.2 hb.size⟩, by rw [hw3]; exact Bx.new w2.drew 9 [.string (T 2), .string (T 0)]⟩
  first | (rw [← hw3]) | (rw [show (w2.alloc (.cells #[.string (T 2), .string (T 0)] 9)).drew = w3 from hw3.symm]) | (trace_state)
  clear hw3
  refine hK.out _ _ (H3.out.1) (fun _ => ?_)
  clear hK KK
  try simp only [List.setIfInBounds_toArray, List.set_cons_zero, List.set_cons_succ]
  refine wpAnyH_ready (rs := [7]) (by kernel_rfl) (by simp) ?_
  refine AllReadyH.cons rfl (fun KK hK => ?_) AllReadyH.nil
  go_simp
  refine (HJ2.out w3 w2.heap.size H3.out.1.2.1 H3.out.2).mono ?_
  intro e w4 hh
  obtain ⟨jb, rfl, h1, h2, h3⟩ := hh.out
  have H4 : Hid ((Bx w4 tg 9 (tcs T 3) ∧ Below M w w4 ∧ M ≤ w4.heap.size) ∧ Bx w4 jb 5 (fc lvL)) := ⟨⟨H3.out.1.1.below h3, H3.out.1.2.1.trans (h3.mono H3.out.1.2.2), Nat.le_trans H3.out.1.2.2 h3.size⟩, h2⟩
  clear hh h1 h2 h3
  go_wp2_with fail
  refine hK.out _ _ (H4.out.1) (fun _ => ?_)
  clear hK KK
  try simp only [List.setIfInBounds_toArray, List.set_cons_zero, List.set_cons_succ]
  refine takeH_at 8 21 (.tuple #[.slice (some ⟨jb, 0, none⟩) 3 3, .int .i64 0]) rfl rfl (by kernel_rfl) (by kernel_rfl) (by kernel_rfl) (fun _ _ _ h => h) (H4.out.1) (Or.inl ⟨by rfl, fun w' hS' => by go_simp⟩) ?_
  try simp only [List.setIfInBounds_toArray, List.set_cons_zero, List.set_cons_succ]
  refine takeH_at 9 30 (.slice (some ⟨jb, 0, none⟩) 3 3) rfl rfl (by kernel_rfl) (by kernel_rfl) (by kernel_rfl) (fun _ _ _ h => h) (H4.out.1) (Or.inl ⟨by rfl, fun w' hS' => by go_simp⟩) ?_
  try simp only [List.setIfInBounds_toArray, List.set_cons_zero, List.set_cons_succ]
  refine takeH_at 10 31 (.int .i64 0) rfl rfl (by kernel_rfl) (by kernel_rfl) (by kernel_rfl) (fun _ _ _ h => h) (H4.out.1) (Or.inl ⟨by rfl, fun w' hS' => by go_simp⟩) ?_
  try simp only [List.setIfInBounds_toArray, List.set_cons_zero, List.set_cons_succ]
  refine wpAnyH_ready (rs := [11]) (by kernel_rfl) (by simp) ?_
  refine AllReadyH.cons rfl (fun KK hK => ?_) AllReadyH.nil
  go_simp
  refine hK.out _ _ (H4.out.1) (fun _ => ?_)
  clear hK KK
  try simp only [List.setIfInBounds_toArray, List.set_cons_zero, List.set_cons_succ]
  refine wpAnyH_ready (rs := [12]) (by kernel_rfl) (by simp) ?_
  refine AllReadyH.cons rfl (fun KK hK => ?_) AllReadyH.nil
  go_simp
  refine hK.out _ _ (H4.out.1) (fun _ => ?_)
  clear hK KK
  try simp only [List.setIfInBounds_toArray, List.set_cons_zero, List.set_cons_succ]
  refine wpAnyH_done (by kernel_rfl) ?_ _
  refine NoPanic.normal ?_
  clear hS0 H3 H2
  obtain ⟨k0, k1, k2⟩ := HC.out _ H4.out.1.1
  go_upto_region 6 with (first
    | (go_at_call 10; refine (HJ1.out _ w4.heap.size (H4.out.1.2.1.trans (((Below.refl _ _).alloc (Nat.le_refl _) _).mono H4.out.1.2.2)) (Bx.new w4 9 [.string (T 1)])).mono ?_; intro e w5 hh; obtain ⟨rfl, h3⟩ := hh.out; have H5 : Hid (Below M w w5 ∧ Bx w5 jb 5 (fc lvL) ∧ M ≤ w5.heap.size) := (by
        have hb : Below w4.heap.size w4 w5 := ((Below.refl _ _).alloc (Nat.le_refl _) _).trans (h3.mono (by simp))
        exact ⟨H4.out.1.2.1.trans (hb.mono H4.out.1.2.2), H4.out.2.below hb, Nat.le_trans H4.out.1.2.2 hb.size⟩); clear hh h3)
    | fail)
  have H17 : Hid (Calls Tryd.prog 17 #[.slice (some ⟨jb, 0, none⟩) 3 3, .slice (some ⟨w5.heap.size, 0, none⟩) 3 3] (w5.alloc (.cells #[.int .u8 1, .int .u8 2, .int .u8 3] 5)) fun e w' => Hid (e = .returned (.bool true) ∧ Below M w w')) := by
    have hb : Below w5.heap.size w5 (w5.alloc (.cells #[.int .u8 1, .int .u8 2, .int .u8 3] 5)) := (Below.refl _ _).alloc (Nat.le_refl _) _
    have h1 : Vf (w5.alloc (.cells #[.int .u8 1, .int .u8 2, .int .u8 3] 5)) (.slice (some ⟨jb, 0, none⟩) 3 3) lvL := vf_mk rfl (by decide) (by unfold maxLen; omega) (fun e => by cases e) (.inr ⟨_, _, rfl, bx_rw (H5.out.2.1.below hb)⟩)
    have h2 : Vf (w5.alloc (.cells #[.int .u8 1, .int .u8 2, .int .u8 3] 5)) (.slice (some ⟨w5.heap.size, 0, none⟩) 3 3) lvL := vf_mk rfl (by decide) (by unfold maxLen; omega) (fun e => by cases e) (.inr ⟨_, _, rfl, bx_rw (Bx.new w5 5 (fc lvL))⟩)
    refine (same_any _ _ _ _ _ h1 h2).mono ?_
    rintro e w' ⟨he, k, hw⟩
    rw [decide_eq_true rfl] at he
    exact ⟨he, by rw [hw]; exact below_drewN0 (H5.out.1.trans (hb.mono H5.out.2.2)) k⟩
  go_wp2_with (first
    | (go_at_call 17; refine H17.out.mono ?_; intro e w6 hh; obtain ⟨rfl, h6⟩ := hh.out; have H6 : Hid (Below M w w6) := h6; clear hh h6)
    | (go_at_call 11; refine (H11.out _ _).mono ?_; rintro e1 wn ⟨rfl, hw⟩; obtain rfl := hw.symm; clear hw)
    | fail)
  go_ret
  exact ⟨rfl, H6.out⟩
end Go.Proofs.YtjcdhfkilnbjgaaDoor
