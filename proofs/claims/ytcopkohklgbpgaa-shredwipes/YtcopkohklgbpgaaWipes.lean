import Derived.Test.YtcopkohklgbpgaaRow
namespace Go.Proofs.Ytcopkohklgbpgaa
open Go.RowKit
set_option linter.unusedVariables false
set_option linter.unusedSimpArgs false
theorem takeH_at {P : Program} {ops : Array Oper} {md : Region.Mode} {S : World → Prop} {Q : Exit → Act → World → Prop} (i d : Nat) (v : Value) {oi : Oper} {fuel : Nat} {listed : Array Bool} {tmps : Array Value} {ds : List Deferred} {w : World} (hi : ops[i]? = some oi) (hd : oi.dst = some d)
    (hs : Region.noSelect ops = true) (hf : Region.free md ops listed i = true) (hr : (Region.ready md ops listed).contains i = true)
    (hQ : ∀ c a w, Q (.panic c) (a.put oi.dst v) w → Q (.panic c) a w) (hS : S w) (hy : YieldsIf P ops S oi v ⟨tmps, ds⟩)
    (h : wpAnyH P md ops Q S fuel (listed.setIfInBounds i true) ⟨tmps.setIfInBounds d v, ds⟩ w) : wpAnyH P md ops Q S (fuel + 1) listed ⟨tmps, ds⟩ w := by
  refine wpAnyH_take hi hs hf hr hQ hy hS ?_
  rw [hd]
  exact h

theorem below_setCells (b : Nat) {B : Nat} (hB : B ≤ b) {a : World} : ∀ (vs : List Value) (o : Nat) (w : World), Below B a w → Below B a (w.setCells b o vs)
  | [], _, _, h => h
  | v :: r, o, w, h => by rw [World.setCells]; exact below_setCells b hB r (o + 1) _ (h.setCell hB _)
theorem sliced_mid (g o i j c : Nat) (h : i < c) : sliced (some ⟨g, o, none⟩) i j c 1 = .slice (some ⟨g, o + i, none⟩) (j - i) (c - i) := by
  rw [sliced, if_neg (by omega), Option.map_some, Nat.mul_one, Addr.add_mid]
theorem wipe_ok (g k c : Nat) (w : World) (ht : w.there g 0 k) : Calls Try.prog 5 #[.slice (some ⟨g, 0, none⟩) k c] w fun e w' => e = .returned (.tuple #[]) ∧ w' = w.setCells g 0 (List.replicate k (.int .u8 0)) := by
  have he := fun ty => clear_eq w ty g 0 k c ht
  clear ht
  go_enter Try.func5, Try.ntmps5
  go_wp2
  go_end0
  exact ⟨rfl, rfl⟩
/-- What is left behind a wipe of the first k. -/
def wiped (k : Nat) (zs : List Int) : List Int := List.replicate k 0 ++ zs.drop k
theorem wiped_length (k : Nat) (zs : List Int) (h : k ≤ zs.length) : (wiped k zs).length = zs.length := by simp [wiped]; omega
theorem view_wiped {w : World} {B g c n k : Nat} {zs : List Int} (h : w.ownsRow B 5 1 (.slice (some ⟨g, 0, none⟩) n c) n (cellsU8 zs)) (hn : zs.length = n) (hk : k ≤ n) :
    View (w.setCells g 0 (List.replicate k (.int .u8 0))) (.slice (some ⟨g, 0, none⟩) n c) (wiped k zs) := by
  have hv := view_owns h hn
  obtain ⟨a, c', he, h1, h2, h3, h4⟩ := hv
  injection he with e1 e2 e3
  subst e1 e3
  have hl := wiped_length k zs (by omega)
  refine ⟨_, c, by rw [hl, hn], by omega, h2, h3, ?_⟩
  rcases h4 with h4 | ⟨b, off, e, hc⟩
  · left
    subst h4
    simp at hn
    have : k = 0 := by omega
    subst this
    rfl
  · right
    injection e with e
    injection e with e4 e5
    subst e4 e5
    refine ⟨g, 0, rfl, fun i hi => ?_⟩
    by_cases hik : i < k
    · have := World.cell?_setCells_in g (List.replicate k (Value.int .u8 0)) 0 w (fun j hj => by rw [hc j (by simp at hj; omega)]; rfl) i (by simpa using hik)
      rw [this]
      simp [wiped, List.getD, List.getElem?_append, hik]
    · rw [World.cell?_setCells_out g (List.replicate k (Value.int .u8 0)) 0 w ⟨g, 0 + i, none⟩ (fun _ _ => Or.inr (by simp; omega)), hc i (by omega)]
      simp [wiped, List.getD, List.getElem?_append, hik]
      congr 3
      omega
set_option maxHeartbeats 3200000 in
set_option maxRecDepth 100000 in
theorem wipes_ok (a : Option Addr) (n cap : Nat) (a1 : Int) (zs : List Int) (w : World) (hn : n + 70 ≤ 140737488355328) (hz : zs.length = n) (hv : View w (.slice a n cap) zs) :
    Calls Try.prog 3 #[.slice a n cap, .int .i64 a1] w fun e w' => e = .returned (.bool true) ∧ Below w.heap.size w w' := by
  obtain ⟨i0, hi, hz0, hz1, hz2⟩ := info_parts Try.info5
  have HV : Hid (View w (.slice a n cap) zs) := hv
  have HZ : Hid (zs.length = n) := hz
  clear hv hz
  go_enter Try.func3, Try.ntmps3
  go_upto_region 2 with fail
  go_cut [5] from 9 to 11 (fun v wx => Hid (wx.ownsRow w.heap.size 5 1 v n (cellsU8 zs) ∧ Below w.heap.size w wx))
  case first =>
    match a, HV with
    | none, HV =>
      have hn0 : n = 0 := by
        obtain ⟨a', c', he, q1, q2, q3, q4⟩ := HV.out
        injection he with e1 e2 e3
        have := q3 e1.symm
        omega
      have hcap : cap = 0 := by
        obtain ⟨a', c', he, q1, q2, q3, q4⟩ := HV.out
        injection he with e1 e2 e3
        have := q3 e1.symm
        omega
      subst hn0 hcap
      obtain rfl : zs = [] := List.eq_nil_of_length_eq_zero HZ.out
      go_wp2_with (first
        | (at_builtin; go_must (refine wpList_append_own_none rfl (.tmp 9) (.tmp 10) 22 rfl w.heap.size 5 i0 1 Try.underlying22 hi _ 0 [] rfl (World.ownsRow_nil _ _ _ _) rfl ?_)))
      go_wp2_with fail
      go_meet
      exact ⟨World.ownsRow_nil _ _ _ _, Below.refl _ _⟩
    | some x, HV =>
      have h1 : Hid (∀ j u, (cellsU8 zs)[j]? = some u → w.cell? (x.add j) = some u) := by
        obtain ⟨a', c', he, q1, q2, q3, q4⟩ := HV.out
        injection he with e1 e2 e3
        subst e1
        rcases q4 with rfl | ⟨b, off, e, hc⟩
        · intro j u hu; simp [cellsU8] at hu
        · injection e with e
          subst e
          exact cellsU8_at zs w b off hc
      go_wp2_with (first
        | (at_builtin; go_must (refine wpList_append_own _ rfl (.tmp 9) (.tmp 10) 22 rfl w.heap.size 5 i0 (.int .u8 0) 1 1 Try.underlying22 hi hz0 hz1 hz2 rfl (by decide) _ 0 [] rfl (World.ownsRow_nil _ _ _ _) x n cap (cellsU8 zs) rfl ?_ h1.out (cellsU8_one zs) ?_ ?_ (Nat.le_refl _) ?_)))
      · rw [cellsU8_length, HZ.out, Nat.mul_one]
      · unfold maxLen; omega
      · omega
      intro v1 w1 hown hgrow hnil
      have HB : Hid (w1.ownsRow w.heap.size 5 1 v1 n (cellsU8 zs) ∧ Below w.heap.size w w1) := ⟨by simpa using hown, (Below.refl _ _).grown hgrow (Nat.le_refl _) (by intro k hk; cases hk)⟩
      clear hgrow hnil hown
      go_wp2_with fail
      go_meet
      exact HB
  case rest =>
  obtain ⟨hown, hbel⟩ := hcut.out
  have HB : Hid (Below w.heap.size w wc) := hbel
  clear hbel
  go_wp2_with (first
    | (at_builtin; go_must (refine wpList_append_own _ rfl (.tmp 12) (.tmp 13) 22 rfl w.heap.size 5 i0 (.int .u8 0) 1 1 Try.underlying22 hi hz0 hz1 hz2 rfl (by decide) _ _ _ rfl (hown.alloc _) ⟨wc.heap.size, 0, none⟩ 3 3 (cellsU8 [9, 8, 7]) rfl rfl (World.news_of_block (heap_alloc_new wc _)) (cellsU8_one _) ?_ ?_ ?_ ?_)))
  · unfold maxLen; omega
  · omega
  · have := HB.out.size; simp; omega
  intro v2 w2 hown2 hgrow2 hnil2
  have HB2 : Below w.heap.size w w2 := (HB.out.alloc HB.out.size _).grown hgrow2 (by have := HB.out.size; simp; omega) (fun q hq => (hown.lt q hq).1)
  obtain ⟨hlen, hcase⟩ := hown2
  rcases hcase with ⟨_, hc⟩ | ⟨g, c, cur, rfl, hg⟩
  · omega
  have HO : Hid (w2.ownsRow w.heap.size 5 1 (.slice (some ⟨g, 0, none⟩) (n + 3) c) (n + 3) (cellsU8 (zs ++ [9, 8, 7])) ∧ Below w.heap.size w w2) := by
    refine ⟨?_, HB2⟩
    rw [cellsU8_append]
    exact ⟨hlen, .inr ⟨g, c, cur, rfl, hg⟩⟩
  clear hgrow2 hnil2 hlen hg HB2 hown HB hcut
  go_upto_region 4 with fail
  go_cut [22] from 15 to 22 (fun c wx => (∃ d : Bool, c = .bool d ∧ Hid (d = decide (a1 < 0 ∨ (n : Int) < a1))) ∧ wx = w2)
  case first =>
    by_cases h0 : a1 < 0
    · have e0 : decide (a1 < 0) = true := by simpa using h0
      have ed : Hid (true = decide (a1 < 0 ∨ (n : Int) < a1)) := by show true = _; simp [h0]
      clear h0
      go_wp2
      go_meet
      exact ⟨⟨_, rfl, ed⟩, rfl⟩
    · by_cases h1 : (n : Int) < a1
      · have e0 : decide (a1 < 0) = false := by simpa using h0
        have e1 : decide ((n : Int) < a1) = true := by simpa using h1
        have ed : Hid (true = decide (a1 < 0 ∨ (n : Int) < a1)) := by show true = _; simp [h1]
        clear h0 h1
        go_wp2
        go_meet
        exact ⟨⟨_, rfl, ed⟩, rfl⟩
      · have e0 : decide (a1 < 0) = false := by simpa using h0
        have e1 : decide ((n : Int) < a1) = false := by simpa using h1
        have ed : Hid (false = decide (a1 < 0 ∨ (n : Int) < a1)) := by show false = _; simp [h0, h1]
        clear h0 h1
        go_wp2
        go_meet
        exact ⟨⟨_, rfl, ed⟩, rfl⟩
  case rest =>
  obtain ⟨⟨d, rfl, HD⟩, hwc⟩ := hcut
  obtain rfl := hwc.symm
  clear hwc
  go_upto_if 22 with fail
  go_cut [1] from 23 to 24 (fun N wy => (∃ k : Nat, k ≤ n ∧ N = .int .i64 k) ∧ wy = w2)
  case first =>
    cases d
    · have hk : ∃ k : Nat, k ≤ n ∧ (Value.int .i64 a1) = .int .i64 k := by
        have := HD.out
        simp at this
        exact ⟨a1.toNat, by omega, by rw [Int.toNat_of_nonneg (by omega)]⟩
      go_wp2
      go_meet
      exact ⟨hk, rfl⟩
    · go_wp2
      go_meet
      exact ⟨⟨n, Nat.le_refl _, rfl⟩, rfl⟩
  case rest =>
  obtain ⟨⟨k, hk, rfl⟩, hwc⟩ := hcut
  obtain rfl := hwc.symm
  clear hwc HD
  obtain ⟨m, rfl⟩ : ∃ m, n = k + m := ⟨n - k, by omega⟩
  obtain ⟨hcl, hcu⟩ : k + m + 3 ≤ c ∧ c ≤ 9223372036854775807 := by
    rcases HO.out.1.2 with ⟨e, _⟩ | ⟨g', c', cur, e, q1, q2, q3, q4, q5, q6⟩
    · cases e
    · injection e with e1 e2 e3
      subst e3
      unfold maxLen at q4
      exact ⟨q3, by omega⟩
  have hth : w2.there g 0 k := fun j hj => ⟨by
      have := HO.out.1.cellAt j (by omega)
      rw [Nat.zero_add, this, cellsU8, List.getElem?_map, List.getElem?_eq_getElem (by have := HZ.out; simp; omega)]
      rfl, HO.out.1.frozenAt _⟩
  have es1 : ∀ u, (Instr.slice 22 (.slice (some ⟨g, 0, none⟩) (k + m + 3) c) none (some (.int .i64 (k : Nat))) none).run Try.prog u = .ok (.slice (some ⟨g, 0, none⟩) k c) u := fun u => by
    rw [slice_h u _ _ _ _ (by omega), sliced_mid _ _ _ _ _ (by omega)]; simp
  go_wp2_with fail
  refine (wipe_ok g k c _ hth).mono ?_
  rintro e w3 ⟨rfl, hw3⟩
  have hvw := view_wiped HO.out.1 (by rw [List.length_append, HZ.out]; rfl) (show k ≤ k + m + 3 by omega)
  rw [← hw3] at hvw
  have HB3 : Hid (Below w.heap.size w w3) := by
    have hg : w.heap.size ≤ g := (HO.out.1.lt g rfl).1
    show Below _ _ _
    rw [hw3]
    exact below_setCells g hg _ _ _ HO.out.2
  have HW : Hid (View w3 (.slice (some ⟨g, 0, none⟩) (k + m + 3) c) (wiped k (zs ++ [9, 8, 7]))) := hvw
  have hc0 : ∀ i, i < k → w3.cell? ⟨g, i, none⟩ = some (.int .u8 0) := fun i hi => by
    have h := World.cell?_setCells_in g (List.replicate k (Value.int .u8 0)) 0 w2 (fun j hj => (hth j (by simpa using hj)).1) i (by simpa using hi)
    rw [← hw3] at h
    simpa using h
  clear hvw hw3 hth es1
  go_wp2_with fail
  go_loopw [6] (fun i wr => ∃ j : Nat, j ≤ k ∧ i = .int .i64 j ∧ wr = w3) (fun i _ => k - (intOf i).toNat)
  case atStart => exact ⟨0, Nat.zero_le _, rfl, rfl⟩
  case round =>
    obtain ⟨j, hj, rfl, rfl⟩ := hrel
    by_cases hlt : j < k
    · have g1 := hc0 j hlt
      clear hc0
      go_wp2
      go_roundw
      case rel => exact ⟨j + 1, by omega, by go_num, trivial⟩
      case measure => simp [intOf]; omega
    · have es1 : ∀ u, (Instr.slice 22 (.slice (some ⟨g, 0, none⟩) (k + m + 3) c) (some (.int .i64 (k : Nat))) none none).run Try.prog u = .ok (.slice (some ⟨g, k, none⟩) (m + 3) (c - k)) u := fun u => by
        rw [slice_l u _ _ _ _ (by omega) (by omega), sliced_mid _ _ _ _ _ (by omega), Nat.zero_add, show k + m + 3 - k = m + 3 by omega]
      have es2 : Hid (∀ u, (Instr.slice 22 (.slice (some ⟨g, k, none⟩) (m + 3) (c - k)) none (some (.int .i64 (m : Nat))) none).run Try.prog u = .ok (.slice (some ⟨g, k, none⟩) m (c - k)) u) := fun u => by
        rw [slice_h u _ _ _ _ (by omega), sliced_mid _ _ _ _ _ (by omega)]; simp
      obtain ⟨V, HVd⟩ : ∃ V, Hid (V = sliced a k (k + m) cap 1) := ⟨_, rfl⟩
      have hcap : k + m ≤ cap := by
        obtain ⟨a', c', he, q1, q2, q3, q4⟩ := HV.out
        injection he with e1 e2 e3
        omega
      have es3 : Hid (∀ u, (Instr.slice 22 (.slice a (k + m) cap) (some (.int .i64 (k : Nat))) none none).run Try.prog u = .ok V u) := fun u => by
        rw [slice_l u _ _ _ _ (by omega) (by omega), HVd.out]
      have es4 : Hid (∀ u, (Instr.slice 22 (.slice (some ⟨g, k, none⟩) (m + 3) (c - k)) (some (.int .i64 (m : Nat))) none none).run Try.prog u = .ok (.slice (some ⟨g, k + m, none⟩) 3 (c - k - m)) u) := fun u => by
        rw [slice_l u _ _ _ _ (by omega) (by omega), sliced_mid _ _ _ _ _ (by omega), show m + 3 - m = 3 by omega]
      have hz := HZ.out
      have d1 : (wiped k (zs ++ [9, 8, 7])).drop k = zs.drop k ++ [9, 8, 7] := by
        rw [wiped, List.drop_left' (by simp), List.drop_append_of_le_length (by omega)]
      have dl : (zs.drop k).length = m := by simp; omega
      have K1 : Hid (∀ u, Below wr.heap.size wr u → Calls Try.prog 6 #[.slice (some ⟨g, k, none⟩) m (c - k), V] u fun e w' => e = .returned (.bool true) ∧ Below u.heap.size u w') := fun u hu => by
        have v1 := view_sliced (HW.out.kept hu.block) k (k + m) (by omega) (by omega)
        rw [sliced_mid _ _ _ _ _ (by omega), Nat.zero_add, d1, show k + m - k = m by omega, List.take_left' dl] at v1
        have v2 := view_sliced ((HV.out.kept HB3.out.block).kept (fun q hq => hu.block q (Nat.lt_of_lt_of_le hq (Nat.le_refl _)))) k (k + m) (by omega) (by omega)
        rw [← HVd.out, show k + m - k = m by omega, List.take_of_length_le (by omega)] at v2
        refine (same_any _ _ _ _ u v1 v2).mono ?_
        rintro e w' ⟨rfl, q, rfl⟩
        exact ⟨by simp, ⟨rfl, rfl, rfl, Nat.le_refl _, fun _ _ => rfl⟩⟩
      have K2 : Hid (∀ u, Below wr.heap.size wr u → Calls Try.prog 6 #[.slice (some ⟨g, k + m, none⟩) 3 (c - k - m), .slice (some ⟨u.heap.size, 0, none⟩) 3 3] (u.alloc (.cells #[.int .u8 9, .int .u8 8, .int .u8 7] 5)) fun e w' => e = .returned (.bool true) ∧ Below (u.alloc (.cells #[.int .u8 9, .int .u8 8, .int .u8 7] 5)).heap.size (u.alloc (.cells #[.int .u8 9, .int .u8 8, .int .u8 7] 5)) w') := fun u hu => by
        have hua := hu.alloc hu.size (.cells #[.int .u8 9, .int .u8 8, .int .u8 7] 5)
        have v1 := view_sliced (HW.out.kept hua.block) (k + m) (k + m + 3) (by omega) (by omega)
        rw [sliced_mid _ _ _ _ _ (by omega), Nat.zero_add, ← List.drop_drop, d1, List.drop_left' dl, show k + m + 3 - (k + m) = 3 by omega, ← Nat.sub_sub] at v1
        have v2 : View (u.alloc (.cells #[.int .u8 9, .int .u8 8, .int .u8 7] 5)) (.slice (some ⟨u.heap.size, 0, none⟩) 3 3) [9, 8, 7] := ⟨_, 3, rfl, by decide, by decide, (fun e => by cases e), .inr ⟨_, _, rfl, fun i hi => by
          have hi3 : i < 3 := hi
          rw [World.cell?_alloc_at _ _ _ _ rfl]
          match i, hi3 with
          | 0, _ => rfl
          | 1, _ => rfl
          | 2, _ => rfl⟩⟩
        refine (same_any _ _ _ _ _ v1 v2).mono ?_
        rintro e w' ⟨rfl, q, rfl⟩
        exact ⟨by simp, ⟨rfl, rfl, rfl, Nat.le_refl _, fun _ _ => rfl⟩⟩
      clear hc0 d1 dl hz
      go_upto_region 14 with fail
      have hS0 : Below wr.heap.size wr wr.drew := (Below.refl _ _).drew
      refine wp_region_noPanic ?_
      refine wp_region_held_drew (S := fun u => Below wr.heap.size wr u) (by kernel_rfl) (hS0) (fun _ => ?_)
      refine takeH_at 0 45 (.slice (some ⟨g, k, none⟩) (m + 3) (c - k)) rfl rfl (by kernel_rfl) (by kernel_rfl) (by kernel_rfl) (fun _ _ _ h => h) (hS0) (Or.inl ⟨by kernel_rfl, fun w' hS' => by go_simp⟩) ?_
      simp only [List.setIfInBounds_toArray, List.set_cons_zero, List.set_cons_succ]
      refine takeH_at 1 46 (.int .i64 (m : Nat)) rfl rfl (by kernel_rfl) (by kernel_rfl) (by kernel_rfl) (fun _ _ _ h => h) (hS0) (Or.inl ⟨by kernel_rfl, fun w' hS' => by go_simp⟩) ?_
      simp only [List.setIfInBounds_toArray, List.set_cons_zero, List.set_cons_succ]
      refine takeH_at 2 47 (.slice (some ⟨g, k, none⟩) m (c - k)) rfl rfl (by kernel_rfl) (by kernel_rfl) (by kernel_rfl) (fun _ _ _ h => h) (hS0) (Or.inl ⟨by kernel_rfl, fun w' hS' => by have q := es2.out w'; go_simp⟩) ?_
      simp only [List.setIfInBounds_toArray, List.set_cons_zero, List.set_cons_succ]
      refine takeH_at 3 48 (.slice a (k + m) cap) rfl rfl (by kernel_rfl) (by kernel_rfl) (by kernel_rfl) (fun _ _ _ h => h) (hS0) (Or.inl ⟨by kernel_rfl, fun w' hS' => by go_simp⟩) ?_
      simp only [List.setIfInBounds_toArray, List.set_cons_zero, List.set_cons_succ]
      refine takeH_at 4 49 (.int .i64 (k : Nat)) rfl rfl (by kernel_rfl) (by kernel_rfl) (by kernel_rfl) (fun _ _ _ h => h) (hS0) (Or.inl ⟨by kernel_rfl, fun w' hS' => by go_simp⟩) ?_
      simp only [List.setIfInBounds_toArray, List.set_cons_zero, List.set_cons_succ]
      refine takeH_at 5 50 (V) rfl rfl (by kernel_rfl) (by kernel_rfl) (by kernel_rfl) (fun _ _ _ h => h) (hS0) (Or.inl ⟨by kernel_rfl, fun w' hS' => by have q := es3.out w'; go_simp⟩) ?_
      simp only [List.setIfInBounds_toArray, List.set_cons_zero, List.set_cons_succ]
      refine wpAnyH_ready (rs := [6]) (by kernel_rfl) (by simp) ?_
      refine AllReadyH.cons rfl (fun K hK => ?_) AllReadyH.nil
      go_simp
      refine (K1.out _ hS0).mono ?_
      rintro e1 q1 ⟨rfl, hb1⟩
      have hS1 : Below wr.heap.size wr q1 := hS0.trans (hb1.mono hS0.size)
      go_wp2_with fail
      refine hK.out _ _ hS1 (fun _ => ?_)
      clear hK K
      try simp only [List.setIfInBounds_toArray, List.set_cons_zero, List.set_cons_succ]
      refine takeH_at 7 52 (.bool true) rfl rfl (by kernel_rfl) (by kernel_rfl) (by kernel_rfl) (fun _ _ _ h => h) (hS1) (Or.inl ⟨by kernel_rfl, fun w' hS' => by go_simp⟩) ?_
      simp only [List.setIfInBounds_toArray, List.set_cons_zero, List.set_cons_succ]
      refine takeH_at 8 53 (.slice (some ⟨g, k, none⟩) (m + 3) (c - k)) rfl rfl (by kernel_rfl) (by kernel_rfl) (by kernel_rfl) (fun _ _ _ h => h) (hS1) (Or.inl ⟨by kernel_rfl, fun w' hS' => by go_simp⟩) ?_
      simp only [List.setIfInBounds_toArray, List.set_cons_zero, List.set_cons_succ]
      refine takeH_at 9 54 (.int .i64 (m : Nat)) rfl rfl (by kernel_rfl) (by kernel_rfl) (by kernel_rfl) (fun _ _ _ h => h) (hS1) (Or.inl ⟨by kernel_rfl, fun w' hS' => by go_simp⟩) ?_
      simp only [List.setIfInBounds_toArray, List.set_cons_zero, List.set_cons_succ]
      refine takeH_at 10 55 (.slice (some ⟨g, k + m, none⟩) 3 (c - k - m)) rfl rfl (by kernel_rfl) (by kernel_rfl) (by kernel_rfl) (fun _ _ _ h => h) (hS1) (Or.inl ⟨by kernel_rfl, fun w' hS' => by have q := es4.out w'; go_simp⟩) ?_
      simp only [List.setIfInBounds_toArray, List.set_cons_zero, List.set_cons_succ]
      refine wpAnyH_ready (rs := [11]) (by kernel_rfl) (by simp) ?_
      refine AllReadyH.cons rfl (fun K hK => ?_) AllReadyH.nil
      rw [if_pos (by kernel_rfl)]
      go_wp2_with fail
      have hS2 : Below wr.heap.size wr (q1.alloc (.cells #[.int .u8 9, .int .u8 8, .int .u8 7] 5)) := hS1.alloc hS1.size _
      refine hK.out _ _ hS2 (fun _ => ?_)
      clear hK K
      try simp only [List.setIfInBounds_toArray, List.set_cons_zero, List.set_cons_succ]
      refine wpAnyH_ready (rs := [12]) (by kernel_rfl) (by simp) ?_
      refine AllReadyH.cons rfl (fun K hK => ?_) AllReadyH.nil
      rw [if_pos (by kernel_rfl)]
      go_simp
      refine (K2.out q1 hS1).mono ?_
      rintro e1 q2 ⟨rfl, hb2⟩
      have hS3 : Below wr.heap.size wr q2 := hS2.trans (hb2.mono hS2.size)
      go_wp2_with fail
      refine hK.out _ _ hS3 (fun _ => ?_)
      clear hK K
      try simp only [List.setIfInBounds_toArray, List.set_cons_zero, List.set_cons_succ]
      refine takeH_at 13 58 (.bool true) rfl rfl (by kernel_rfl) (by kernel_rfl) (by kernel_rfl) (fun _ _ _ h => h) (hS3) (Or.inl ⟨by kernel_rfl, fun w' hS' => by go_simp⟩) ?_
      simp only [List.setIfInBounds_toArray, List.set_cons_zero, List.set_cons_succ]
      refine takeH_at 14 4 (.bool true) rfl rfl (by kernel_rfl) (by kernel_rfl) (by kernel_rfl) (fun _ _ _ h => h) (hS3) (Or.inl ⟨by kernel_rfl, fun w' hS' => by go_simp⟩) ?_
      simp only [List.setIfInBounds_toArray, List.set_cons_zero, List.set_cons_succ]
      refine wpAnyH_done (by kernel_rfl) ?_ _
      refine NoPanic.normal ?_
      go_wp2_with fail
      go_ret
      exact ⟨rfl, HB3.out.trans (hS3.mono HB3.out.size)⟩
end Go.Proofs.Ytcopkohklgbpgaa
