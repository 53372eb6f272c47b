import Derived.Test.YtcnikfikpnnblaaGreatDoorPart00
import Derived.Test.YtcnikfikpnnblaaGreatDoorHcb
import Derived.Test.YtcnikfikpnnblaaGreatDoorPart08
namespace Go.Proofs.YtcnikfikpnnblaaGreatDoor
open Go.RowKit
set_option linter.unusedVariables false
set_option linter.unusedSimpArgs false
theorem slice3 (w : World) (c0 c1 c2 c3 c4 c5 c6 c7 c8 c9 c10 c11 c12 c13 c14 c15 d0 d1 d2 d3 d4 d5 d6 d7 d8 d9 d10 d11 d12 d13 d14 d15 e0 e1 e2 e3 e4 e5 e6 e7 e8 e9 e10 e11 e12 e13 e14 e15 : Value) : (Instr.buildSlice 77 3 #[(0, .agg #[c0, c1, c2, c3, c4, c5, c6, c7, c8, c9, c10, c11, c12, c13, c14, c15]), (1, .agg #[d0, d1, d2, d3, d4, d5, d6, d7, d8, d9, d10, d11, d12, d13, d14, d15]), (2, .agg #[e0, e1, e2, e3, e4, e5, e6, e7, e8, e9, e10, e11, e12, e13, e14, e15])]).run Tryz.prog w = .ok (.slice (some ⟨w.heap.size, 0, none⟩) 3 3) (w.alloc (.cells #[c0, c1, c2, c3, c4, c5, c6, c7, c8, c9, c10, c11, c12, c13, c14, c15, d0, d1, d2, d3, d4, d5, d6, d7, d8, d9, d10, d11, d12, d13, d14, d15, e0, e1, e2, e3, e4, e5, e6, e7, e8, e9, e10, e11, e12, e13, e14, e15] 29)) := by
  obtain ⟨i, hi, hz0, hz1, hz2⟩ := info_parts Tryz.info29b
  refine run_buildSlice w 77 29 3 _ _ i _ Tryz.underlying77b hi hz0 (by rw [hz1]; decide) (by rw [hz1]; decide) ?_
  rw [hz1]; exact fill3 _ _ _ _ _ _ _ _ _ _ _ _ _ _ _ _ _ _ _ _ _ _ _ _ _ _ _ _ _ _ _ _ _ _ _ _ _ _ _ _ _ _ _ _ _ _ _ _
theorem slice3B (w : World) (a b c : BitVec 128) : (Instr.buildSlice 77 3 #[(0, .agg (Fd.BL a).toArray), (1, .agg (Fd.BL b).toArray), (2, .agg (Fd.BL c).toArray)]).run Tryz.prog w = .ok (.slice (some ⟨w.heap.size, 0, none⟩) 3 3) (w.alloc (.cells (Fd.BL a ++ Fd.BL b ++ Fd.BL c).toArray 29)) := slice3 w _ _ _ _ _ _ _ _ _ _ _ _ _ _ _ _ _ _ _ _ _ _ _ _ _ _ _ _ _ _ _ _ _ _ _ _ _ _ _ _ _ _ _ _ _ _ _ _
/-- append to a row that the call owns, in a region that draws. -/
theorem step_append_own {P : Program} {w : World} {ops : Array Oper} {o : Oper} {a : Act} {K : Act → World → Prop} {Q : Exit → Act → World → Prop} {E : Prop} (hgd : o.guard = none) (s x : Operand) (t : TypeId)
    (ho : o.op = .call { callee := .builtin .append, args := #[s, x], argTypes := #[t, t] })
    (base : Nat) (e : TypeId) (i : TypeInfo) (z : Value) (size bytes : Nat) (ht : P.underlying t = some (.slice e)) (hi : P.info? e = some i) (hz : i.zero = some z)
    (hsize : i.size = size) (hby : i.bytes = bytes) (hzs : z.cells.size = size) (hsz : 0 < size)
    (v : Value) (n : Nat) (xs : List Value) (hs : a.eval s = v) (hown : w.ownsRow base e size v n xs)
    (ad : Addr) (m c : Nat) (news : List Value) (hx : a.eval x = .slice (some ad) m c) (hl : news.length = m * size) (hnews : ∀ j u, news[j]? = some u → w.cell? (ad.add j) = some u) (h1 : ∀ u ∈ news, u.oneCell' = true)
    (h63 : n + m ≤ maxLen) (hbytes : (n + m) * bytes ≤ 140737488355328) (hbase : base ≤ w.heap.size)
    (h : ∀ v' w', Hid (w'.ownsRow base e size v' (n + m) (xs ++ news)) → Hid (w.grownBy w' v.ownBlock) → K (a.put o.dst v') w') :
    if Region.wanted o (yielded ops a.tmps) = true then Oper.wp P o a w K Q else E := by
  have hw : Region.wanted o (yielded ops a.tmps) = true := by simp [Region.wanted, hgd]
  rw [if_pos hw]
  exact wp_append_own w s x t ho base e i z size bytes ht hi hz hsize hby hzs hsz v n xs hs hown ad m c news hx hl hnews h1 h63 hbytes hbase fun v' w' h2 h3 _ => h v' w' h2 h3
/-- The blocks that hctr2 hashes. -/
def hsF (kd fi : BitVec 128) (zs : List Int) : Nat → BitVec 128
  | 0 => kd
  | 1 => fi
  | 2 => 0#128
  | i + 3 => flV zs i
theorem hsF_list (kd fi : BitVec 128) (zs : List Int) (m : Nat) : bkL (hsF kd fi zs) (3 + m) = Fd.BL kd ++ Fd.BL fi ++ Fd.BL 0#128 ++ bkL (flV zs) m := by
  induction m with
  | zero => simp [bkL, hsF, List.range_succ]
  | succ m ih => rw [show 3 + (m + 1) = (3 + m) + 1 by omega, bkL_succ, ih, bkL_succ, show 3 + m = m + 3 by omega, hsF]; simp
/-- hctr2's hash. -/
def hsV (h fi : BitVec 128) (zs : List Int) : BitVec 128 := Fd.pvF h (hsF (kdV zs.length) fi zs) (3 + flN zs.length)
theorem own_blks {w : World} {base g n cap : Nat} {f : Nat → BitVec 128} (h : w.ownsRow base 29 16 (.slice (some ⟨g, 0, none⟩) n cap) n (bkL f n)) (hn : 0 < n) : Fd.Blks w (some ⟨g, 0, none⟩) n f ∧ n ≤ cap ∧ cap ≤ maxLen := by
  rcases h.2 with ⟨q, _⟩ | ⟨g', cap', cur, q, _, hh, h2, h3, h4, h5⟩
  · cases q
  · injection q with q1 q2 q3
    injection q1 with q1
    injection q1 with q1
    subst q1 q3
    refine ⟨.inr ⟨g, 0, rfl, (Array.getElem?_eq_some_iff.1 hh).1, fun i hi j v hj => ?_⟩, h2, h3⟩
    have hj16 : j < 16 := by have := (List.getElem?_eq_some_iff.1 hj).1; rw [Fd.BL_length] at this; exact this
    rw [Fd.BL_at _ j hj16] at hj
    have e := bkL_at f n i j hi hj16
    rw [hj, ← h5, List.getElem?_take] at e
    split at e
    · rw [show 0 + i * 16 + j = 16 * i + j by omega]
      simp only [World.cell?, hh]
      rw [Array.getElem?_toList] at e
      simp [e]
    · cases e
theorem own_news {w : World} {base e size : Nat} {x n cap : Nat} {xs : List Value} (h : w.ownsRow base e size (.slice (some ⟨x, 0, none⟩) n cap) n xs) : ∀ j u, xs[j]? = some u → w.cell? ((⟨x, 0, none⟩ : Addr).add j) = some u := h.cells rfl
set_option maxHeartbeats 3200000 in
set_option maxRecDepth 100000 in
/-- hash's closure. -/
theorem hash1_ok (p q : Nat) (fi h : BitVec 128) (v : Value) (zs : List Int) (w : World) (hp : Bx w p 29 (Fd.BL fi)) (hq : Bx w q 29 (Fd.BL h)) (hv : View w v zs) (hb : AllBytes zs) (hm : zs.length ≤ 4096) :
    Calls Tryz.prog 248 #[v, .pointer (some ⟨p, 0, none⟩), .pointer (some ⟨q, 0, none⟩)] w fun e w' => Hid (e = .returned (Fd.BV (hsV h fi zs)) ∧ Below w.heap.size w w') := by
  obtain ⟨a, c, rfl, h1, h2, h3, h4⟩ := id hv
  obtain ⟨FI, HFI⟩ : ∃ L, Hid (L = Fd.BL fi) := ⟨_, rfl⟩
  obtain ⟨HH, HHH⟩ : ∃ L, Hid (L = Fd.BL h) := ⟨_, rfl⟩
  obtain ⟨KD, HKD⟩ : ∃ L, Hid (L = Fd.BL (kdV zs.length)) := ⟨_, rfl⟩
  obtain ⟨RS, HRS⟩ : ∃ L, Hid (L = Fd.BL (hsV h fi zs)) := ⟨_, rfl⟩
  obtain ⟨n, HNL⟩ : ∃ n, Hid (zs.length = n) := ⟨_, rfl⟩
  obtain ⟨m, HML⟩ : ∃ n, Hid (flN zs.length = n) := ⟨_, rfl⟩
  have hm257 : m ≤ 257 := by rw [← HML.out]; unfold flN; omega
  have HK1 : Hid (∀ u, Calls Tryz.prog 249 #[.slice a n c] u fun e w' => Hid (e = .returned (.agg KD.toArray) ∧ Below u.heap.size u w')) := fun u => by rw [HKD.out, HNL.out]; exact kind_ok a n c u (by rw [← HNL.out]; exact hm)
  have HF1 : Hid (∀ u, Below w.heap.size w u → Calls Tryz.prog 250 #[.slice a n c] u fun e w' => Hid (∃ y d, e = .returned (.slice (some ⟨y, 0, none⟩) m d) ∧ w'.ownsRow u.heap.size 29 16 (.slice (some ⟨y, 0, none⟩) m d) m (bkL (flV zs) m) ∧ Below u.heap.size u w')) := fun u hu => by
    have z := filled_ok _ zs u (hv.below hu) hb hm
    rw [HNL.out] at z
    refine z.mono fun e w' hh => ?_
    obtain ⟨y, d, e1, e2, e3⟩ := hh.out
    rw [HML.out] at e1 e2
    exact ⟨y, d, e1, e2, e3⟩
  have HP1 : Hid (∀ u g cap, u.ownsRow w.heap.size 29 16 (.slice (some ⟨g, 0, none⟩) (3 + m) cap) (3 + m) (KD ++ FI ++ ZZ ++ bkL (flV zs) m) → Calls Tryz.prog 11 #[.agg HH.toArray, .slice (some ⟨g, 0, none⟩) (3 + m) cap] u fun e w' => Hid (e = .returned (.agg RS.toArray) ∧ Below u.heap.size u w')) := fun u g cap hu => by
    have e0 : KD ++ FI ++ ZZ ++ bkL (flV zs) m = bkL (hsF (kdV zs.length) fi zs) (3 + m) := by rw [hsF_list, HKD.out, HFI.out, Fd.BL_zero]
    rw [e0] at hu
    obtain ⟨q1, q2, q3⟩ := own_blks hu (by omega)
    rw [HHH.out, HRS.out]
    unfold hsV
    rw [HML.out]
    exact (Fd.polyval_ok h _ (3 + m) cap _ u q1 q2 (by unfold maxLen at q3; omega)).mono fun e w' hh => hh
  have HLN : Hid (RS.length = 16 ∧ (∀ x ∈ RS, x.oneCell' = true) ∧ FI.length = 16 ∧ HH.length = 16 ∧ KD.length = 16) := by rw [HRS.out, HFI.out, HHH.out, HKD.out]; exact ⟨Fd.BL_length _, BL_one8 _, Fd.BL_length _, Fd.BL_length _, Fd.BL_length _⟩
  have HBS : Hid (∀ u : World, (Instr.buildSlice 77 3 #[(0, .agg KD.toArray), (1, .agg FI.toArray), (2, .agg ZZ.toArray)]).run Tryz.prog u = .ok (.slice (some ⟨u.heap.size, 0, none⟩) 3 3) (u.alloc (.cells (KD ++ FI ++ ZZ).toArray 29))) := fun u => by
    have z := slice3B u (kdV zs.length) fi 0#128
    rw [Fd.BL_zero, ← HKD.out, ← HFI.out] at z
    exact z
  have HMX : Hid (∀ y ∈ bkL (flV zs) m, y.oneCell' = true) := bkL_one _ _
  have HML2 : Hid ((bkL (flV zs) m).length = m * 16 ∧ 3 + m ≤ maxLen ∧ (3 + m) * 16 ≤ 140737488355328) := ⟨by rw [bkL_len]; omega, by unfold maxLen; omega, by omega⟩
  obtain ⟨i0, hi0, hz0, hz1, hz2⟩ := info_parts Tryz.info29b
  have HI0 : Hid (Tryz.prog.info? 29 = some i0 ∧ i0.zero = some (.agg ZZ.toArray) ∧ i0.size = 16 ∧ i0.bytes = 16) := ⟨hi0, hz0, hz1, hz2⟩
  rw [HNL.out]
  show Calls Tryz.prog 248 #[_, _, _] w fun e w' => Hid (e = .returned (.agg (Fd.BL (hsV h fi zs)).toArray) ∧ _)
  rw [← HRS.out]
  rw [← HFI.out] at hp
  rw [← HHH.out] at hq
  obtain ⟨w1, hw1⟩ : ∃ w1, w1 = w.alloc (.cells ZZ.toArray 29) := ⟨_, rfl⟩
  have HB1 : Hid (Bx w1 w.heap.size 29 ZZ ∧ Below w.heap.size w w1 ∧ Bx w1 p 29 FI ∧ Bx w1 q 29 HH ∧ p < w.heap.size ∧ q < w.heap.size) := by
    have hb1 : Below w.heap.size w w1 := by rw [hw1]; exact (Below.refl _ _).alloc (Nat.le_refl _) _
    exact ⟨by rw [hw1]; exact Bx.new w 29 ZZ, hb1, hp.below hb1, hq.below hb1, hp.lt, hq.lt⟩
  clear hv hb hm h1 h2 h3 h4 hi0 hz0 hz1 hz2 hp hq hm257
  go_enter Tryz.func248, Tryz.ntmps248
  go_upto_region 1 with fail
  rw [show w.alloc (.cells _ 29) = w1 from hw1.symm]
  clear hw1
  obtain ⟨M, HMM⟩ : ∃ M, Hid (w.heap.size = M) := ⟨_, rfl⟩
  rw [HMM.out] at HB1 HF1 HP1 ⊢
  have HW1 : Hid (M + 1 ≤ w1.heap.size) := HB1.out.1.lt
  have hU : Tryz.prog.underlying 29 = some (.array 16 5) := Tryz.underlying29
  have hiL : (Tryz.prog.info? 29).map (·.size) = some FI.length := by rw [HLN.out.2.2.1]; kernel_rfl
  have hiH : (Tryz.prog.info? 29).map (·.size) = some HH.length := by rw [HLN.out.2.2.2.1]; kernel_rfl
  have hr1 : w1.rangeAt p 0 FI := HB1.out.2.2.1.range
  have hS0 : w1.drew.rangeAt p 0 FI := by simpa using hr1
  refine wp_region_noPanic ?_
  refine Fd.wp_region_till (fun u => u.rangeAt p 0 FI) 4 (by kernel_rfl) (by decide) (by decide +kernel) (by decide +kernel) (by decide +kernel) (fun inv => ?_)
  refine Fd.till_at 0 6 (.slice a n c) inv rfl rfl (by decide) (by decide +kernel) (by decide +kernel) (fun _ _ _ h => h) hS0 (Or.inl ⟨by rfl, fun w' hS' => by go_simp⟩) (fun inv' => ?_)
  clear inv; have inv := inv'; clear inv'
  try simp only [List.setIfInBounds_toArray, List.set_cons_zero, List.set_cons_succ]
  refine Fd.till_at 2 8 (.agg FI.toArray) inv rfl rfl (by decide) (by decide +kernel) (by decide +kernel) (fun _ _ _ h => h) hS0 (yieldsIf_load_mid (by rfl) 29 (.tmp 1) rfl p 0 rfl FI _ (fun u hu => hu) Tryz.underlying29 rfl hiL) (fun inv' => ?_)
  clear inv; have inv := inv'; clear inv'
  try simp only [List.setIfInBounds_toArray, List.set_cons_zero, List.set_cons_succ]
  refine Fd.till_at 3 9 (.agg ZZ.toArray) inv rfl rfl (by decide) (by decide +kernel) (by decide +kernel) (fun _ _ _ h => h) hS0 (Or.inl ⟨by rfl, fun w' hS' => by go_simp⟩) (fun inv' => ?_)
  clear inv; have inv := inv'; clear inv'
  try simp only [List.setIfInBounds_toArray, List.set_cons_zero, List.set_cons_succ]
  refine Fd.till_head (i := 1) inv (by decide +kernel) (by decide) rfl (fun KK hK => ?_)
  go_simp
  refine (HK1.out _).mono ?_
  intro e2 w2 hh
  obtain ⟨rfl, hb2⟩ := hh.out
  have HB2 : Hid (Below w1.heap.size w1 w2) := (Below.refl _ _).drew.trans hb2
  clear hh hb2
  go_wp2_with fail
  refine hK.out _ _ ((HB1.out.2.2.1.below HB2.out).range) (fun inv' => ?_)
  clear hK KK inv; have inv := inv'; clear inv'
  try simp only [List.setIfInBounds_toArray, List.set_cons_zero, List.set_cons_succ]
  refine Fd.till_tail (i := 4) (by decide +kernel) (by decide) rfl (fun KK hK => ?_)
  refine step_bs rfl 10 rfl 77 29 3 #[(0, .tmp 7), (1, .tmp 8), (2, .tmp 9)] rfl #[(0, .agg KD.toArray), (1, .agg FI.toArray), (2, .agg ZZ.toArray)] (by simp [Act.eval]) (KD ++ FI ++ ZZ).toArray HBS.out ?_
  refine hK.out _ _ ?_
  clear hK KK
  try simp only [List.setIfInBounds_toArray, List.set_cons_zero, List.set_cons_succ]
  refine Fd.till_tail (i := 5) (by decide +kernel) (by decide) rfl (fun KK hK => ?_)
  rw [if_pos (by rfl)]
  go_simp
  refine hK.out _ _ ?_
  clear hK KK
  try simp only [List.setIfInBounds_toArray, List.set_cons_zero, List.set_cons_succ]
  refine Fd.till_done (by decide +kernel) ?_ _
  refine NoPanic.normal ?_
  obtain ⟨w3, hw3⟩ : ∃ w3, w3 = w2.alloc (.cells (KD ++ (FI ++ ZZ)).toArray 29) := ⟨_, rfl⟩
  obtain ⟨X, HX⟩ : ∃ X, Hid (w2.heap.size = X) := ⟨_, rfl⟩
  have HW3 : Hid (w3.ownsRow M 29 16 (.slice (some ⟨X, 0, none⟩) 3 3) 3 (KD ++ FI ++ ZZ) ∧ Bx w3 M 29 ZZ ∧ Bx w3 q 29 HH ∧ Below M w w3 ∧ M < X) := by
    have s1 := HW1.out
    have s2 := HB2.out.size
    have hal : Below w2.heap.size w2 w3 := by rw [hw3]; exact (Below.refl _ _).alloc (Nat.le_refl _) _
    have hll : (KD ++ FI ++ ZZ).length = 48 := by simp [HLN.out.2.2.1, HLN.out.2.2.2.2]
    refine ⟨⟨by rw [hll], .inr ⟨X, 3, (KD ++ FI ++ ZZ).toArray, rfl, by rw [← HX.out]; omega, ?_, by decide, by decide, by rw [List.size_toArray, hll], List.take_of_length_le (by show (KD ++ FI ++ ZZ).length ≤ 48; omega)⟩⟩, (HB1.out.1.below HB2.out).below hal, (HB1.out.2.2.2.1.below HB2.out).below hal, HB1.out.2.1.trans ((HB2.out.mono (by omega)).trans (hal.mono (by omega))), by rw [← HX.out]; omega⟩
    rw [hw3, ← HX.out, ← List.append_assoc]
    exact Bx.new w2 29 _
  rw [← hw3, HX.out]
  clear hw3 HX
  go_upto_region 2 with fail
  have hS0 : w3.drew.rangeAt q 0 HH := by simpa using HW3.out.2.2.1.range
  have HWD : Hid (Below M w w3.drew) := HW3.out.2.2.2.1.trans (((Below.refl w3.heap.size w3).drew).mono (by have := HW3.out.2.1.lt; omega))
  refine wp_region_noPanic ?_
  refine Fd.wp_region_till (fun u => u.rangeAt q 0 HH) 6 (by kernel_rfl) (by decide) (by decide +kernel) (by decide +kernel) (by decide +kernel) (fun inv => ?_)
  refine Fd.till_at 0 11 (.agg HH.toArray) inv rfl rfl (by decide) (by decide +kernel) (by decide +kernel) (fun _ _ _ h => h) hS0 (yieldsIf_load_mid (by rfl) 29 (.tmp 2) rfl q 0 rfl HH _ (fun u hu => hu) Tryz.underlying29 rfl hiH) (fun inv' => ?_)
  clear inv; have inv := inv'; clear inv'
  try simp only [List.setIfInBounds_toArray, List.set_cons_zero, List.set_cons_succ]
  refine Fd.till_at 1 12 (.slice (some ⟨X, 0, none⟩) 3 3) inv rfl rfl (by decide) (by decide +kernel) (by decide +kernel) (fun _ _ _ h => h) hS0 (Or.inl ⟨by rfl, fun w' hS' => by go_simp⟩) (fun inv' => ?_)
  clear inv; have inv := inv'; clear inv'
  try simp only [List.setIfInBounds_toArray, List.set_cons_zero, List.set_cons_succ]
  refine Fd.till_at 2 13 (.slice a n c) inv rfl rfl (by decide) (by decide +kernel) (by decide +kernel) (fun _ _ _ h => h) hS0 (Or.inl ⟨by rfl, fun w' hS' => by go_simp⟩) (fun inv' => ?_)
  clear inv; have inv := inv'; clear inv'
  try simp only [List.setIfInBounds_toArray, List.set_cons_zero, List.set_cons_succ]
  refine Fd.till_head (i := 3) inv (by decide +kernel) (by decide) rfl (fun KK hK => ?_)
  go_simp
  refine (HF1.out _ HWD.out).mono ?_
  intro e4 w4 hh
  obtain ⟨y, d, rfl, ho4, hb4⟩ := hh.out
  have HB4 : Hid (Below w3.heap.size w3 w4) := (Below.refl _ _).drew.trans hb4
  have HO4 : Hid (w4.ownsRow w3.drew.heap.size 29 16 (.slice (some ⟨y, 0, none⟩) m d) m (bkL (flV zs) m)) := ho4
  clear hh hb4 ho4
  go_wp2_with fail
  refine hK.out _ _ ((HW3.out.2.2.1.below HB4.out).range) (fun inv' => ?_)
  clear hK KK inv; have inv := inv'; clear inv'
  try simp only [List.setIfInBounds_toArray, List.set_cons_zero, List.set_cons_succ]
  refine Fd.till_head (i := 4) inv (by decide +kernel) (by decide) rfl (fun KK hK => ?_)
  refine step_append_own rfl (.tmp 12) (.tmp 14) 77 rfl M 29 i0 (.agg ZZ.toArray) 16 16 Tryz.underlying77b HI0.out.1 HI0.out.2.1 HI0.out.2.2.1 HI0.out.2.2.2 rfl (by decide) (.slice (some ⟨X, 0, none⟩) 3 3) 3 (KD ++ FI ++ ZZ) rfl (ownsRow_below HW3.out.1 HB4.out) ⟨y, 0, none⟩ m d (bkL (flV zs) m) rfl HML2.out.1 (own_news HO4.out) HMX.out HML2.out.2.1 HML2.out.2.2 (Nat.le_trans (Nat.le_of_lt HW3.out.2.1.lt) HB4.out.size) ?_
  intro v5 w5 HO5 HG5
  have HS5 : Hid (w5.rangeAt q 0 HH ∧ Bx w5 M 29 ZZ ∧ Below M w w5) := by
    have hqM := HB1.out.2.2.2.2.2
    have hMX := HW3.out.2.2.2.2
    have s3 := HW3.out.2.1.lt
    have s4 := HB4.out.size
    have e5 : ∀ b, b ≤ M → w5.heap[b]? = w3.heap[b]? := fun b hb => by
      rw [HG5.out.block b (by omega) (by simp [Value.ownBlock]; omega), HB4.out.block b (by omega)]
    refine ⟨(HW3.out.2.2.1.keep (e5 q (by have := HMM.out; omega))).range, HW3.out.2.1.keep (e5 M (Nat.le_refl _)), HW3.out.2.2.2.1.trans ((HB4.out.mono (by omega)).trans ⟨HG5.out.os, HG5.out.tape, HG5.out.output, HG5.out.size, fun b hb => HG5.out.block b (by omega) (by simp [Value.ownBlock]; omega)⟩)⟩
  refine hK.out _ _ HS5.out.1 (fun inv' => ?_)
  clear hK KK inv; have inv := inv'; clear inv'
  try simp only [List.setIfInBounds_toArray, List.set_cons_zero, List.set_cons_succ]
  obtain ⟨g5, cap5, rfl⟩ : ∃ g c, v5 = .slice (some ⟨g, 0, none⟩) (3 + m) c := by
    rcases HO5.out.2 with ⟨_, q⟩ | ⟨g, c, _, q, _⟩
    · omega
    · exact ⟨g, c, q⟩
  refine Fd.till_head (i := 5) inv (by decide +kernel) (by decide) rfl (fun KK hK => ?_)
  go_simp
  refine (HP1.out _ g5 cap5 HO5.out).mono ?_
  intro e6 w6 hh
  obtain ⟨rfl, hb6⟩ := hh.out
  have HB6 : Hid (Bx w6 M 29 ZZ ∧ Below M w w6) := ⟨HS5.out.2.1.below hb6, HS5.out.2.2.trans (hb6.mono (by have := HS5.out.2.1.lt; omega))⟩
  have HS6 : Hid (w6.rangeAt q 0 HH) := Fd.range_same HS5.out.1 (hb6.block q (by have := HS5.out.2.1.lt; have := HB1.out.2.2.2.2.2; have := HMM.out; omega))
  clear hh hb6
  go_wp2_with fail
  refine hK.out _ _ (HS6.out) (fun inv' => ?_)
  clear hK KK inv; have inv := inv'; clear inv'
  try simp only [List.setIfInBounds_toArray, List.set_cons_zero, List.set_cons_succ]
  refine Fd.till_tail (i := 6) (by decide +kernel) (by decide) rfl (fun KK hK => ?_)
  refine step_store_bx rfl 29 (.tmp 4) (.tmp 16) rfl ZZ RS M rfl rfl HB6.out.1 (by rw [HLN.out.1]; rfl) (by rw [HLN.out.1]; kernel_rfl) HLN.out.2.1 ?_
  intro u9 HB9 HG9
  refine hK.out _ _ ?_
  clear hK KK
  try simp only [List.setIfInBounds_toArray, List.set_cons_zero, List.set_cons_succ]
  refine Fd.till_done (by decide +kernel) ?_ _
  refine NoPanic.normal ?_
  go_wp2
  refine ret_agg (b := M) RS rfl rfl HB9.out.range Tryz.underlying29 rfl (by rw [HLN.out.1]; kernel_rfl) ⟨rfl, ?_⟩
  have hfin : Below M w u9 := HB6.out.2.trans (below_gb HG9.out (by have := HB6.out.1.lt; omega) (by omega))
  first | exact hfin | (rw [HMM.out]; exact hfin)
end Go.Proofs.YtcnikfikpnnblaaGreatDoor
