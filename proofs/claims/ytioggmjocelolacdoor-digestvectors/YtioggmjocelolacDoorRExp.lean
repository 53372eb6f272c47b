import Derived.Test.YtioggmjocelolacDoorPart07
import Derived.Test.YtioggmjocelolacDoorExpand
namespace Go.Proofs.YtioggmjocelolacDoor
open Go.RowKit
set_option linter.unusedVariables false
set_option linter.unusedSimpArgs false
theorem cellsU8_nil : cellsU8 [] = [] := rfl
/-- append of bytes that are seen, nil or not, to a row that is owned. -/
theorem wpList_append_view {w : World} {ops : Array Oper} {rest : List Oper} {o : Oper} {a : Act} {Q : Exit → Act → World → Prop} (hgd : o.guard = none) (s x : Operand)
    (ho : o.op = .call { callee := .builtin .append, args := #[s, x], argTypes := #[22, 22] }) (base n n' : Nat) (v : Value) (A : List Int) (hs : a.eval s = v) (hown : w.ownsRow base 5 1 v n (cellsU8 A)) (xa : Option Addr) (m c : Nat) (hx : a.eval x = .slice xa m c) (Z : List Int) (hv : View w (.slice xa m c) Z) (hm : Z.length = m) (hn' : n' = n + m) (hl : n + m ≤ 140737488355328) (hbase : base ≤ w.heap.size)
    (h : ∀ v' w', w'.ownsRow base 5 1 v' n' (cellsU8 (A ++ Z)) → w.grownBy w' v.ownBlock → (v'.ownBlock = v.ownBlock ∨ v'.ownBlock = some w.heap.size) → wpList Tryd.prog ops Q rest (a.put o.dst v') w') : wpList Tryd.prog ops Q (o :: rest) a w := by
  obtain ⟨i0, hi, hz0, hz1, hz2⟩ := info_parts Tryd.info5
  rcases view_cases hv hm with ⟨rfl, rfl, rfl, rfl⟩ | ⟨ad, rfl, hc⟩
  · refine wpList_append_own_none hgd s x 22 ho base 5 i0 1 Tryd.underlying22 hi v n (cellsU8 A) hs hown hx ?_
    refine h v w (by rw [hn', List.append_nil]; exact hown) ⟨rfl, rfl, rfl, Nat.le_refl _, fun _ _ _ => rfl⟩ (.inl rfl)
  · refine wpList_append_own_at _ hgd s x 22 ho base 5 i0 (.int .u8 0) 1 1 Tryd.underlying22 hi hz0 hz1 hz2 rfl (by decide) v n (cellsU8 A) hs hown ad m c (cellsU8 Z) hx (by rw [cellsU8_length, hm, Nat.mul_one]) hc (cellsU8_one _) (by unfold maxLen; omega) (by omega) hbase ?_
    intro v' w' h1 h2 _ h4
    rw [← cellsU8_append, ← hn'] at h1
    exact h v' w' h1 h2 h4
theorem expT_len {h : Int} (k : Known h) (key info : List Int) (q : Nat) : (expT h key info q).length ≤ 64 := by
  cases q with
  | zero => simp [expT]
  | succ q => rw [expT, hmac_len2 k]; exact (szOf_pos k).2
set_option maxHeartbeats 3200000 in
set_option maxRecDepth 100000 in
theorem rexpand_walk (h : Int) (ka ia : Option Addr) (kn kc il ic n : Nat) (key info : List Int) (w : World) (k : Hid (Known h)) (hR : Hid (RTab w)) (hk : Hid (View w (.slice ka kn kc) key)) (hkn : Hid (key.length = kn)) (hi : Hid (View w (.slice ia il ic) info)) (hil : Hid (info.length = il)) (hkl : kn ≤ 33554432) (hil2 : il ≤ 33554432) (hn1 : 1 ≤ n) (hn : Hid (n ≤ 255 * szOf h)) (hn2 : n ≤ 16320) :
    Calls Tryd.prog 44 #[.int .i64 h, .slice ka kn kc, .slice ia il ic, .int .i64 n] w fun e w' => ∃ v' q, e = .returned v' ∧ View w' v' ((expL h key info q).take n) ∧ n ≤ q * szOf h ∧ (∀ b, v'.ownBlock = some b → w.heap.size ≤ b) ∧ Below w.heap.size w w' := by
  have hR2 := hR.out.size
  have hsp := szOf_pos k.out
  obtain ⟨sz, HSz⟩ : ∃ sz, Hid (sz = szOf h) := ⟨_, rfl⟩
  have hsz : 1 ≤ sz ∧ sz ≤ 64 := by rw [HSz.out]; exact hsp
  clear hsp
  go_enter Tryd.func44, Tryd.ntmps44
  go_wp2
  go_loopw [9, 10, 11] (fun v9 v10 vi wr => ∃ q i L c tl tc : Nat, ∃ a ta : Option Addr, Hid (i = q + 1) ∧ Hid (L = q * sz) ∧ i ≤ 256 ∧ i ≤ L + 1 ∧ vi = .int .i64 i ∧ v9 = .slice a L c ∧ v10 = .slice ta tl tc ∧ Hid ((expT h key info q).length = tl) ∧ tl ≤ 64 ∧ Hid (wr.ownsRow w.heap.size 5 1 (.slice a L c) L (cellsU8 (expL h key info q))) ∧ Hid (View wr (.slice ta tl tc) (expT h key info q)) ∧ Hid (Below w.heap.size w wr)) (fun _ _ vi _ => n + 1 - (intOf vi).toNat)
  case atStart => exact ⟨0, 1, 0, 0, 0, 0, none, none, rfl, (by show 0 = _; rw [Nat.zero_mul]), by omega, by omega, rfl, rfl, rfl, rfl, by omega, World.ownsRow_nil _ _ _ _, ⟨none, 0, rfl, by simp [expT], by simp [maxLen], fun _ => rfl, .inl rfl⟩, Below.refl _ _⟩
  case round =>
    obtain ⟨q, i, L, c, tl, tc, a, ta, HIq, HLq, hi256, hiL, rfl, rfl, rfl, HTl, htl, HO, HT, HB3⟩ := hrel
    by_cases hlt : L < n
    · have hi255 : i ≤ 255 := by
        have h1 := HLq.out
        have h2 := hn.out
        have h3 := HIq.out
        rw [← HSz.out] at h2
        have h4 : q * sz < 255 * sz := by omega
        have := Nat.lt_of_mul_lt_mul_right h4
        omega
      go_wp2_with (first | (at_builtin; go_must (refine wpList_append_view rfl (.tmp 19) (.tmp 20) rfl w.heap.size 0 tl (.slice none 0 0) [] rfl (World.ownsRow_nil _ _ _ _) ta tl tc rfl (expT h key info q) HT.out HTl.out (by omega) (by omega) HB3.out.size ?_)))
      intro v4 w4 hown4 hgrow4 hat4
      obtain ⟨a4, c4, rfl⟩ := owns_slice hown4
      have HO4 : Hid (w4.ownsRow w.heap.size 5 1 (.slice a4 tl c4) tl (cellsU8 (expT h key info q))) := hown4
      have HA4 : Hid (RowsApart (.slice a4 tl c4) (.slice a L c)) := apart_step HO.out (fun b hb => by cases hb) hat4 (Nat.le_refl _)
      have HU4 : Hid (w4.ownsRow w.heap.size 5 1 (.slice a L c) L (cellsU8 (expL h key info q))) := owns_other HO.out hgrow4 (fun b hb => by cases hb)
      have HB4 : Hid (Below w.heap.size w w4) := HB3.out.grown hgrow4 HB3.out.size (fun b hb => by cases hb)
      have HI4 : Hid (View w4 (.slice ia il ic) info) := hi.out.kept fun b hb => HB4.out.block b hb
      clear hown4 hgrow4 hat4 HO HT
      go_wp2_with (first | (at_builtin; go_must (refine wpList_append_view rfl (.tmp 22) (.tmp 23) rfl w.heap.size tl (tl + il) (.slice a4 tl c4) (expT h key info q) rfl HO4.out ia il ic rfl info HI4.out hil.out rfl (by omega) HB4.out.size ?_)))
      intro v6 w6 hown6 hgrow6 hat6
      obtain ⟨a6, c6, rfl⟩ := owns_slice hown6
      have HO6 : Hid (w6.ownsRow w.heap.size 5 1 (.slice a6 (tl + il) c6) (tl + il) (cellsU8 (expT h key info q ++ info))) := hown6
      have HA6 : Hid (RowsApart (.slice a6 (tl + il) c6) (.slice a L c)) := apart_step HU4.out HA4.out hat6 (Nat.le_refl _)
      have HU6 : Hid (w6.ownsRow w.heap.size 5 1 (.slice a L c) L (cellsU8 (expL h key info q))) := owns_other HU4.out hgrow6 HA4.out
      have HB6 : Hid (Below w.heap.size w w6) := HB4.out.grown hgrow6 HB4.out.size (fun b hb => (HO4.out.lt b hb).1)
      clear hown6 hgrow6 hat6 HO4 HA4 HU4 HB4 HI4
      have hBa : Below w6.heap.size w6 (w6.alloc (.cells #[.int .u8 ((i : Nat) : Int)] 5)) := (Below.refl _ _).alloc (Nat.le_refl _) _
      have HOa : Hid ((w6.alloc (.cells #[.int .u8 ((i : Nat) : Int)] 5)).ownsRow w.heap.size 5 1 (.slice a6 (tl + il) c6) (tl + il) (cellsU8 (expT h key info q ++ info))) := owns_kept HO6.out hBa
      have HUa : Hid ((w6.alloc (.cells #[.int .u8 ((i : Nat) : Int)] 5)).ownsRow w.heap.size 5 1 (.slice a L c) L (cellsU8 (expL h key info q))) := owns_kept HU6.out hBa
      have HBa : Hid (Below w.heap.size w (w6.alloc (.cells #[.int .u8 ((i : Nat) : Int)] 5))) := HB6.out.trans (hBa.mono HB6.out.size)
      have HVa : Hid (View (w6.alloc (.cells #[.int .u8 ((i : Nat) : Int)] 5)) (.slice (some ⟨w6.heap.size, 0, none⟩) 1 1) [((i : Nat) : Int)]) := ⟨_, 1, rfl, by simp, by simp [maxLen], (fun e => by cases e), .inr ⟨w6.heap.size, 0, rfl, fun j hj => by
        obtain rfl : j = 0 := by simp at hj; omega
        exact rangeAt_new w6 #[.int .u8 ((i : Nat) : Int)] 5 0 _ rfl⟩⟩
      clear hBa
      go_wp2_with (first | (at_builtin; go_must (refine wpList_append_view rfl (.tmp 25) (.tmp 28) rfl w.heap.size (tl + il) (tl + il + 1) (.slice a6 (tl + il) c6) (expT h key info q ++ info) rfl HOa.out (some ⟨w6.heap.size, 0, none⟩) 1 1 rfl [((i : Nat) : Int)] HVa.out rfl rfl (by omega) HBa.out.size ?_)))
      intro v8 w8 hown8 hgrow8 hat8
      obtain ⟨a8, c8, rfl⟩ := owns_slice hown8
      have HO8 : Hid (w8.ownsRow w.heap.size 5 1 (.slice a8 (tl + il + 1) c8) (tl + il + 1) (cellsU8 (expT h key info q ++ (info ++ [((i : Nat) : Int)])))) := hown8
      have HU8 : Hid (w8.ownsRow w.heap.size 5 1 (.slice a L c) L (cellsU8 (expL h key info q))) := owns_other HUa.out hgrow8 HA6.out
      have HB8 : Hid (Below w.heap.size w w8) := HBa.out.grown hgrow8 HBa.out.size (fun b hb => (HOa.out.lt b hb).1)
      clear hown8 hgrow8 hat8 HOa HUa HBa HVa HO6 HA6 HU6 HB6
      have HD : Hid (Calls Tryd.prog 24 #[.int .i64 h, .slice ka kn kc, .slice a8 (tl + il + 1) c8] w8 fun e w' => Hid (∃ v', e = .returned v' ∧ w'.ownsRow w8.heap.size 5 1 v' sz (cellsU8 (expT h key info (q + 1))) ∧ Below w8.heap.size w8 w')) := by
        rw [HSz.out, expT, ← HIq.out]
        exact rcode_walk h ka kn kc a8 (tl + il + 1) c8 key _ w8 k (hR.out.below HB8.out hR2) (hk.out.kept fun b hb => HB8.out.block b hb) hkn (viewOwns HO8.out (by rw [List.length_append, List.length_append, HTl.out, hil.out]; simp; omega)) (by show _ = _; rw [List.length_append, List.length_append, HTl.out, hil.out]; simp; omega) (by omega) (by omega)
      go_upto_region 11 with (go_at_call 24; refine HD.out.mono ?_)
      intro e9 w9 hh
      obtain ⟨v9, rfl, ho9, hb9⟩ := hh.out
      obtain ⟨a9, c9, rfl⟩ := owns_slice ho9
      have HTl9 : Hid ((expT h key info (q + 1)).length = sz) := by show _ = _; rw [expT, hmac_len2 k.out, HSz.out]
      have HO9 : Hid (w9.ownsRow w8.heap.size 5 1 (.slice a9 sz c9) sz (cellsU8 (expT h key info (q + 1)))) := ho9
      have HV9 : Hid (View w9 (.slice a9 sz c9) (expT h key info (q + 1))) := viewOwns ho9 HTl9.out
      have HU9 : Hid (w9.ownsRow w.heap.size 5 1 (.slice a L c) L (cellsU8 (expL h key info q))) := owns_kept HU8.out hb9
      have HB9 : Hid (Below w.heap.size w w9) := HB8.out.trans (hb9.mono HB8.out.size)
      have HUb : Hid (∀ b, (Value.slice a L c).ownBlock = some b → b < w8.heap.size) := fun b hb => (HU8.out.lt b hb).2
      clear hh ho9 hb9 HD HO8 HU8 HB8
      go_wp2_with (first | (at_builtin; go_must (refine wpList_append_view rfl (.tmp 34) (.tmp 35) rfl w.heap.size L (L + sz) (.slice a L c) (expL h key info q) rfl HU9.out a9 sz c9 rfl (expT h key info (q + 1)) HV9.out HTl9.out rfl (by omega) HB9.out.size ?_)))
      intro v10 w10 hown10 hgrow10 hat10
      obtain ⟨a10, c10, rfl⟩ := owns_slice hown10
      have HO10 : Hid (w10.ownsRow w.heap.size 5 1 (.slice a10 (L + sz) c10) (L + sz) (cellsU8 (expL h key info (q + 1)))) := hown10
      have HB10 : Hid (Below w.heap.size w w10) := HB9.out.grown hgrow10 HB9.out.size (fun b hb => (HU9.out.lt b hb).1)
      have HV10 : Hid (View w10 (.slice a9 sz c9) (expT h key info (q + 1))) := HV9.out.grown hgrow10 (fun b off l c' e e2 => by
        have h1 := (HO9.out.lt b (by rw [e]; rfl)).1
        have h2 := HUb.out b e2.symm
        omega)
      have HI10 : Hid (i + 1 = q + 1 + 1) := by show _ = _; rw [HIq.out]
      have HL10 : Hid (L + sz = (q + 1) * sz) := by show _ = _; rw [HLq.out, Nat.succ_mul]
      clear hown10 hgrow10 hat10 HO9 HV9 HU9 HB9 HUb
      go_wp2
      go_roundw
      case rel => exact ⟨q + 1, i + 1, L + sz, c10, sz, c9, a10, a9, HI10, HL10, by omega, by omega, by go_num, rfl, rfl, HTl9, by omega, HO10, HV10, HB10⟩
      case measure => simp [intOf]; omega
    · have HNL : Hid (n ≤ L) := by show _ ≤ _; omega
      obtain ⟨g, c', hgc⟩ := owns_some HO.out (by omega)
      injection hgc with e1 e2 e3
      subst e1
      have HLe : Hid ((expL h key info q).length = L) := by show _ = _; rw [expL_length k.out, HLq.out, HSz.out]
      have HV : Hid (View wr (.slice (some ⟨g, 0, none⟩) L c) (expL h key info q)) := viewOwns HO.out HLe.out
      have hLc : L ≤ c ∧ c ≤ maxLen := by
        obtain ⟨_, _, e, q1, q2, _⟩ := HV.out
        injection e with e1 e2 e3
        have := HLe.out
        omega
      unfold maxLen at hLc
      clear e2 e3
      have d1 : ¬ ((L : Nat) : Int) < (n : Nat) := by omega
      go_wp2
      go_ret
      refine ⟨_, rfl, q, ?_, by have h1 := HNL.out; have h2 := HLq.out; rw [← HSz.out]; omega, (fun b hb => (HO.out.lt b hb).1), HB3.out⟩
      exact view_take HV.out HNL.out
end Go.Proofs.YtioggmjocelolacDoor
