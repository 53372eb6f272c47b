import Derived.Test.YtcopkohklgbpgabDoorPart06
import Derived.Test.YtcopkohklgbpgabDoorRows
import Derived.Test.YtcopkohklgbpgabDoorPart00
import Derived.ProofKit
import Derived.OpenShut
import Derived.ShutString
import Derived.ChangeOld
import Derived.Below
import Derived.SizedLaws
import Derived.Lib.LaidTab
import Derived.Deep.DeepHandedRow
import Derived.Test.YtcopkohklgbpgabDoorPart05
namespace Go.Proofs.YtcopkohklgbpgabDoor
open Go.RowKit Go.Shelf
set_option linter.unusedVariables false
set_option linter.unusedSimpArgs false
/-- What Split answers: its error, its bytes. -/
def splE (h : Int) (n : Nat) (st : Int) (rl : Nat) : Int := if ¬ Known h then 10 else if rndE n st ≠ 0 then rndE n st else if ¬ (rl : Int) = rndN n st then 41 else 0
def splGood (h : Int) (n : Nat) (st : Int) (rl : Nat) : Prop := Known h ∧ rndE n st = 0 ∧ (rl : Int) = rndN n st
instance (h : Int) (n : Nat) (st : Int) (rl : Nat) : Decidable (splGood h n st rl) := by unfold splGood; infer_instance
def splL (h : Int) (Z : List Int) (st : Int) (A : List Int) : List Int := if splGood h Z.length st A.length then splitL h Z.length (st.toNat - 1) Z A else []
theorem splitL_length (h : Int) (n cnt : Nat) (Z A : List Int) : (splitL h n cnt Z A).length = A.length + n := by simp [splitL]
theorem splL_length (h : Int) (Z : List Int) (st : Int) (A : List Int) : (splL h Z st A).length ≤ A.length + Z.length := by
  unfold splL
  split
  · rw [splitL_length]; exact Nat.le_refl _
  · simp
set_option maxHeartbeats 400000 in
theorem spl_bad {h : Int} (k : ¬ Known h) (v r : Value) (st : Int) (w : World) : Calls Tryd.prog 5 #[.int .i64 h, v, .int .i64 st, r] w fun e w' => e = .returned (.tuple #[.slice none 0 0, .int .i64 10]) ∧ Below w.heap.size w w' := by
  go_enter_defers Tryd.func5, Tryd.ntmps5
  go_wp2_with (go_at_call 11; refine (mbegin_bad k w).mono ?_)
  rintro e w1 ⟨rfl, hb⟩
  have HB : Hid (Below w.heap.size w w1) := hb
  clear hb
  go_wp2
  exact ⟨_, results_tmp2 rfl _ _ _, rfl, HB.out⟩
set_option maxHeartbeats 800000 in
theorem spl_err {h : Int} (k : Known h) (a : Option Addr) (n c : Nat) (hn : n ≤ 9223372036854775807) (ra : Option Addr) (rl rc : Nat) (st : Int) (w : World) (hT : Tables w) (E : Int) (hE : ¬ E = 0) (hEE : Hid (E = rndE n st)) : Calls Tryd.prog 5 #[.int .i64 h, .slice a n c, .int .i64 st, .slice ra rl rc] w fun e w' => e = .returned (.tuple #[.slice none 0 0, .int .i64 E]) ∧ Below w.heap.size w w' := by
  have hT4 : 4 ≤ w.heap.size := hT.size
  have H11 : Hid (Calls Tryd.prog 11 #[.int .i64 h] w fun e w' => Hid (∃ g s, e = .returned (.tuple #[.pointer (some ⟨g, 0, none⟩), .int .i64 0]) ∧ Mx w' g s (fun _ => 0) 0 ∧ Fresh w' s h ∧ s < g ∧ w.heap.size ≤ s ∧ Below w.heap.size w w')) := mbegin h w k hT
  obtain ⟨Nn, HNn⟩ : ∃ Nn, Hid (Nn = rndN n st) := ⟨_, rfl⟩
  have H13 : Hid (∀ u, Calls Tryd.prog 13 #[.int .i64 (n : Nat), .int .i64 st] u fun e w' => e = .returned (.tuple #[.int .i64 Nn, .int .i64 E]) ∧ w' = u) := fun u => by
    rw [hEE.out, HNn.out]
    exact random_any n hn st u
  go_enter_defers Tryd.func5, Tryd.ntmps5
  go_wp2_with (go_at_call 11; refine H11.out.mono ?_)
  intro e w1 hh
  obtain ⟨g, s, rfl, hMx, hFr, hsg, hsw, hb1⟩ : ∃ g s, e = .returned (.tuple #[.pointer (some ⟨g, 0, none⟩), .int .i64 0]) ∧ Mx w1 g s (fun _ => 0) 0 ∧ Fresh w1 s h ∧ s < g ∧ w.heap.size ≤ s ∧ Below w.heap.size w w1 := by
    have := hh.out
    grind
  have HMix1 : Hid (Mix w1 g s h (fun _ => 0) 0) := ⟨hMx, ⟨firstE h, [], hFr⟩, hT.below hb1 hT4⟩
  have HB1 : Hid (Below w.heap.size w w1) := hb1
  clear hMx hFr hb1 hh
  go_wp2_with (go_at_call 13; refine (H13.out _).mono ?_; rintro e1 wx ⟨rfl, hwx⟩; obtain rfl := hwx.symm)
  refine leaves_cons (f := 12) (args := #[.pointer (some ⟨g, 0, none⟩)]) (by simp) (by simp [go_sem]) ?_
  refine (mendD g s 0 (fun _ => 0) h w1 k HMix1 (by omega) (by omega)).mono ?_
  rintro e6 u6 w6 ⟨rfl, rfl, hT6⟩
  refine ⟨_, results_tmp2 rfl _ _ _, rfl, HB1.out.trans (hT6.toBelow (by omega) (by omega) HB1.out.size)⟩
set_option maxHeartbeats 800000 in
theorem spl_mat {h : Int} (k : Known h) (a : Option Addr) (n c : Nat) (hn : n ≤ 9223372036854775807) (ra : Option Addr) (rl rc : Nat) (hrl : rl ≤ 9223372036854775807) (st : Int) (w : World) (hT : Tables w) (Nn : Int) (hN : ¬ (rl : Int) = Nn) (hE : Hid (rndE n st = 0)) (hNN : Hid (Nn = rndN n st)) : Calls Tryd.prog 5 #[.int .i64 h, .slice a n c, .int .i64 st, .slice ra rl rc] w fun e w' => e = .returned (.tuple #[.slice none 0 0, .int .i64 41]) ∧ Below w.heap.size w w' := by
  have hT4 : 4 ≤ w.heap.size := hT.size
  have H11 : Hid (Calls Tryd.prog 11 #[.int .i64 h] w fun e w' => Hid (∃ g s, e = .returned (.tuple #[.pointer (some ⟨g, 0, none⟩), .int .i64 0]) ∧ Mx w' g s (fun _ => 0) 0 ∧ Fresh w' s h ∧ s < g ∧ w.heap.size ≤ s ∧ Below w.heap.size w w')) := mbegin h w k hT
  have H13 : Hid (∀ u, Calls Tryd.prog 13 #[.int .i64 (n : Nat), .int .i64 st] u fun e w' => e = .returned (.tuple #[.int .i64 Nn, .int .i64 0]) ∧ w' = u) := fun u => by
    have q := random_any n hn st u
    rw [hE.out, ← hNN.out] at q
    exact q
  go_enter_defers Tryd.func5, Tryd.ntmps5
  go_wp2_with (go_at_call 11; refine H11.out.mono ?_)
  intro e w1 hh
  obtain ⟨g, s, rfl, hMx, hFr, hsg, hsw, hb1⟩ : ∃ g s, e = .returned (.tuple #[.pointer (some ⟨g, 0, none⟩), .int .i64 0]) ∧ Mx w1 g s (fun _ => 0) 0 ∧ Fresh w1 s h ∧ s < g ∧ w.heap.size ≤ s ∧ Below w.heap.size w w1 := by
    have := hh.out
    grind
  have HMix1 : Hid (Mix w1 g s h (fun _ => 0) 0) := ⟨hMx, ⟨firstE h, [], hFr⟩, hT.below hb1 hT4⟩
  have HB1 : Hid (Below w.heap.size w w1) := hb1
  clear hMx hFr hb1 hh
  go_wp2_with (go_at_call 13; refine (H13.out _).mono ?_; rintro e1 wx ⟨rfl, hwx⟩; obtain rfl := hwx.symm)
  refine leaves_cons (f := 12) (args := #[.pointer (some ⟨g, 0, none⟩)]) (by simp) (by simp [go_sem]) ?_
  refine (mendD g s 0 (fun _ => 0) h w1 k HMix1 (by omega) (by omega)).mono ?_
  rintro e6 u6 w6 ⟨rfl, rfl, hT6⟩
  refine ⟨_, results_tmp2 rfl _ _ _, rfl, HB1.out.trans (hT6.toBelow (by omega) (by omega) HB1.out.size)⟩
theorem good_split {h : Int} {n rl : Nat} {st : Int} (g : splGood h n st rl) : ∃ cnt : Nat, cnt = st.toNat - 1 ∧ st = (cnt : Int) + 1 ∧ rl = n * cnt ∧ 1 ≤ n ∧ n ≤ 1024 ∧ cnt < 4000 := by
  obtain ⟨_, h1, h2⟩ := g
  obtain ⟨q1, q2, q3, q4⟩ := rndE_zero h1
  refine ⟨st.toNat - 1, rfl, by omega, ?_, q1, q2, by omega⟩
  unfold rndN at h2
  rw [if_pos h1] at h2
  have e : (n : Int) * (st - 1) = ((n * (st.toNat - 1) : Nat) : Int) := by
    rw [show st - 1 = ((st.toNat - 1 : Nat) : Int) by omega]
    simp
  rw [e] at h2
  exact Int.ofNat.inj h2
theorem view_len {w : World} {v : Value} {Z : List Int} (h : View w v Z) : ∃ a c, v = .slice a Z.length c ∧ Z.length ≤ 9223372036854775807 := by
  obtain ⟨a, c, e, q1, q2, _⟩ := h
  unfold maxLen at q2
  exact ⟨a, c, e, by omega⟩
theorem spl_ok (h : Int) (v r : Value) (Z A : List Int) (st : Int) (w : World) (hT : Tables w) (hv : View w v Z) (hr : View w r A) :
    Calls Tryd.prog 5 #[.int .i64 h, v, .int .i64 st, r] w fun e w' => ∃ v', e = .returned (.tuple #[v', .int .i64 (splE h Z.length st A.length)]) ∧ Ans w.heap.size w' v' (splL h Z st A) ∧ Below w.heap.size w w' := by
  obtain ⟨a, c, hveq, hzl⟩ := view_len hv
  obtain ⟨ra, rc, hreq, hal⟩ := view_len hr
  by_cases k : Known h
  · by_cases hE : rndE Z.length st = 0
    · by_cases hN : (A.length : Int) = rndN Z.length st
      · have g : splGood h Z.length st A.length := ⟨k, hE, hN⟩
        have e1 : splE h Z.length st A.length = 0 := by unfold splE; rw [if_neg (by simpa using k), if_neg (by simpa using hE), if_neg (by simpa using hN)]
        obtain ⟨cnt, ec, est, erl, hn1, hn2, hc⟩ := good_split g
        have e2 : splL h Z st A = splitL h Z.length cnt Z A := by unfold splL; rw [if_pos g, ← ec]
        rw [e1, e2, est]
        refine (split_ok h Z.length cnt v r Z A a ra c rc w k hT ⟨hn1, hn2⟩ hc hveq (by rw [hreq, erl]) hv rfl hr erl).mono ?_
        rintro e w' ⟨b', rfl, hb', hm, hbl⟩
        refine ⟨_, rfl, .inr ⟨b', by rw [splitL_length, erl], hb', ?_, hm⟩, hbl⟩
        exact lt_of_cell (hm.cell 0 (by rw [splitL_length]; omega))
      · have e1 : splE h Z.length st A.length = 41 := by unfold splE; rw [if_neg (by simpa using k), if_neg (by simpa using hE), if_pos hN]
        have e2 : splL h Z st A = [] := by unfold splL; rw [if_neg (fun g => hN g.2.2)]
        rw [e1, e2, hveq, hreq]
        refine (spl_mat k a Z.length c hzl ra A.length rc hal st w hT (rndN Z.length st) hN hE rfl).mono ?_
        rintro e w' ⟨rfl, hbl⟩
        exact ⟨_, rfl, .inl ⟨rfl, rfl⟩, hbl⟩
    · have e1 : splE h Z.length st A.length = rndE Z.length st := by unfold splE; rw [if_neg (by simpa using k), if_pos hE]
      have e2 : splL h Z st A = [] := by unfold splL; rw [if_neg (fun g => hE g.2.1)]
      rw [e1, e2, hveq, hreq]
      refine (spl_err k a Z.length c hzl ra A.length rc st w hT (rndE Z.length st) hE rfl).mono ?_
      rintro e w' ⟨rfl, hbl⟩
      exact ⟨_, rfl, .inl ⟨rfl, rfl⟩, hbl⟩
  · have e1 : splE h Z.length st A.length = 10 := by unfold splE; rw [if_pos k]
    have e2 : splL h Z st A = [] := by unfold splL; rw [if_neg (fun g => k g.1)]
    rw [e1, e2]
    refine (spl_bad k v r st w).mono ?_
    rintro e w' ⟨rfl, hbl⟩
    exact ⟨_, rfl, .inl ⟨rfl, rfl⟩, hbl⟩
/-- The document's Split. -/
theorem plus_split (h : Int) (n cnt : Nat) (Z A : List Int) : A ++ plusL n (befL h n A cnt) Z = splitL h n cnt Z A := by
  unfold plusL splitL
  congr 1
  apply List.map_congr_left
  intro i hi
  have hi' : i < n := by simpa using hi
  unfold xorF
  rw [befL_at h n _ cnt i hi', if_pos hi']
set_option maxHeartbeats 400000 in
theorem rspl_bad {h : Int} (k : ¬ Known h) (v r : Value) (st : Int) (w : World) : Calls Tryd.prog 6 #[.int .i64 h, v, .int .i64 st, r] w fun e w' => e = .returned (.tuple #[.slice none 0 0, .int .i64 10]) ∧ w' = w := by
  go_enter Tryd.func6, Tryd.ntmps6
  go_wp2_with (go_at_call 16; refine (rsize_bad h k _).mono ?_; rintro e1 wx ⟨rfl, hwx⟩; obtain rfl := hwx.symm)
  go_ret2
  exact ⟨rfl, rfl⟩
set_option maxHeartbeats 400000 in
theorem rspl_err {h : Int} (k : Known h) (a : Option Addr) (n c : Nat) (hn : n ≤ 9223372036854775807) (r : Value) (st : Int) (w : World) (E : Int) (hE : ¬ E = 0) (hEE : Hid (E = rndE n st)) : Calls Tryd.prog 6 #[.int .i64 h, .slice a n c, .int .i64 st, r] w fun e w' => e = .returned (.tuple #[.slice none 0 0, .int .i64 E]) ∧ w' = w := by
  have hp := szOf_pos k
  obtain ⟨Nn, HNn⟩ : ∃ Nn, Hid (Nn = rndN n st) := ⟨_, rfl⟩
  have H17 : Hid (∀ u, Calls Tryd.prog 17 #[.int .i64 (n : Nat), .int .i64 st] u fun e w' => e = .returned (.tuple #[.int .i64 Nn, .int .i64 E]) ∧ w' = u) := fun u => by
    rw [hEE.out, HNn.out]
    exact rrandom_any n hn st u
  go_enter Tryd.func6, Tryd.ntmps6
  go_wp2_with (first
    | (go_at_call 16; refine (rsize_ok h k _).mono ?_; rintro e1 wx ⟨rfl, hwx⟩; obtain rfl := hwx.symm)
    | (go_at_call 17; refine (H17.out _).mono ?_; rintro e1 wx ⟨rfl, hwx⟩; obtain rfl := hwx.symm))
  go_ret2
  exact ⟨rfl, rfl⟩
set_option maxHeartbeats 400000 in
theorem rspl_mat {h : Int} (k : Known h) (a : Option Addr) (n c : Nat) (hn : n ≤ 9223372036854775807) (ra : Option Addr) (rl rc : Nat) (hrl : rl ≤ 9223372036854775807) (st : Int) (w : World) (Nn : Int) (hN : ¬ (rl : Int) = Nn) (hE : Hid (rndE n st = 0)) (hNN : Hid (Nn = rndN n st)) : Calls Tryd.prog 6 #[.int .i64 h, .slice a n c, .int .i64 st, .slice ra rl rc] w fun e w' => e = .returned (.tuple #[.slice none 0 0, .int .i64 41]) ∧ w' = w := by
  have hp := szOf_pos k
  have H17 : Hid (∀ u, Calls Tryd.prog 17 #[.int .i64 (n : Nat), .int .i64 st] u fun e w' => e = .returned (.tuple #[.int .i64 Nn, .int .i64 0]) ∧ w' = u) := fun u => by
    have q := rrandom_any n hn st u
    rw [hE.out, ← hNN.out] at q
    exact q
  go_enter Tryd.func6, Tryd.ntmps6
  go_wp2_with (first
    | (go_at_call 16; refine (rsize_ok h k _).mono ?_; rintro e1 wx ⟨rfl, hwx⟩; obtain rfl := hwx.symm)
    | (go_at_call 17; refine (H17.out _).mono ?_; rintro e1 wx ⟨rfl, hwx⟩; obtain rfl := hwx.symm))
  go_ret2
  exact ⟨rfl, rfl⟩
/-- append(nil, list...). -/
theorem view_cases {w : World} {a : Option Addr} {m c : Nat} {A : List Int} (h : View w (.slice a m c) A) (hl : A.length = m) : (a = none ∧ m = 0 ∧ c = 0 ∧ A = []) ∨ ∃ x, a = some x ∧ ∀ j u, (cellsU8 A)[j]? = some u → w.cell? (x.add j) = some u := by
  obtain ⟨a', c', e, q1, q2, q3, q4⟩ := h
  injection e with e1 e2 e3
  subst e1 e3
  rcases a with _ | x
  · rcases q4 with q4 | ⟨b, p, e, _⟩
    · have := q3 rfl
      refine .inl ⟨rfl, by rw [← hl, q4]; rfl, this, q4⟩
    · cases e
  · refine .inr ⟨x, rfl, ?_⟩
    rcases q4 with rfl | ⟨b, p, e, hc⟩
    · intro j u hu
      simp [cellsU8] at hu
    · injection e with e
      subst e
      exact cellsU8_at A w b p hc
set_option maxHeartbeats 1600000 in
set_option maxRecDepth 100000 in
theorem rspl_good {h : Int} (k : Known h) (za : Option Addr) (n zc : Nat) (Z A : List Int) (ra : Option Addr) (m rc cnt : Nat) (st : Int) (hst : Hid (st = (cnt : Int) + 1)) (w : World) (hR : Hid (RTab w)) (hn : 1 ≤ n ∧ n ≤ 1024) (hc : cnt < 4000) (hm : Hid (m = n * cnt)) (hmb : m ≤ 10000000) (hZ : Hid (View w (.slice za n zc) Z)) (hZl : Hid (Z.length = n)) (hA : Hid (View w (.slice ra m rc) A)) (hAl : Hid (A.length = m)) :
    Calls Tryd.prog 6 #[.int .i64 h, .slice za n zc, .int .i64 st, .slice ra m rc] w fun e w' => ∃ v', e = .returned (.tuple #[v', .int .i64 0]) ∧ w'.ownsRow w.heap.size 5 1 v' (m + n) (cellsU8 (splitL h n cnt Z A)) ∧ Below w.heap.size w w' := by
  obtain ⟨i0, hi, hz0, hz1, hz2⟩ := info_parts Tryd.info5
  have hp := szOf_pos k
  have H17 : Hid (∀ u, Calls Tryd.prog 17 #[.int .i64 (n : Nat), .int .i64 st] u fun e w' => e = .returned (.tuple #[.int .i64 (m : Nat), .int .i64 0]) ∧ w' = u) := fun u => by
    have q := rrandom_any n (by omega) st u
    have hst' := hst.out
    have e1 : rndE n st = 0 := by unfold rndE; rw [if_neg (by omega), if_neg (by omega), if_neg (by simp; omega)]
    have e2 : rndN n st = (m : Nat) := by unfold rndN; rw [if_pos e1, hm.out, hst']; simp
    rw [e1, e2] at q
    exact q
  have HTail : Hid (∀ w1 v1, w1.ownsRow w.heap.size 5 1 v1 m (cellsU8 A) → Below w.heap.size w w1 → Calls Tryd.prog 18 #[.int .i64 h, .int .i64 (n : Nat), .slice ra m rc] w1 fun e w2 => Hid (∃ vd, e = .returned vd ∧ w2.ownsRow w1.heap.size 5 1 vd n (cellsU8 (befL h n A cnt)) ∧ Below w1.heap.size w1 w2)) := fun w1 v1 _ hb => rbefore_ok k n cnt m rc ra A w1 (hR.out.below hb hR.out.size) hn hm hmb (hA.out.kept fun b h => hb.block b h) hAl
  rcases view_cases hA.out hAl.out with ⟨rfl, rfl, rfl, hAn⟩ | ⟨x, rfl, hx⟩
  · have ho1 : w.ownsRow w.heap.size 5 1 (.slice none 0 0) 0 (cellsU8 A) := by rw [hAn]; exact World.ownsRow_nil _ _ _ _
    have HO1 : Hid (w.ownsRow w.heap.size 5 1 (.slice none 0 0) 0 (cellsU8 A)) := ho1
    have HB1 : Hid (Below w.heap.size w w) := Below.refl _ _
    clear hAn ho1
    go_enter Tryd.func6, Tryd.ntmps6
    go_upto_region 10 with (first
      | (go_at_call 16; refine (rsize_ok h k _).mono ?_; rintro e1 wx ⟨rfl, hwx⟩; obtain rfl := hwx.symm)
      | (go_at_call 17; refine (H17.out _).mono ?_; rintro e1 wx ⟨rfl, hwx⟩; obtain rfl := hwx.symm)
      | (at_builtin; go_must (refine wpList_append_own_none rfl (.tmp 32) (.tmp 33) 22 rfl w.heap.size 5 i0 1 Tryd.underlying22 hi _ 0 [] rfl (World.ownsRow_nil _ _ _ _) rfl ?_)))
    go_upto_region 11 with (go_at_call 18; refine (HTail.out w (.slice none 0 0) HO1.out HB1.out).mono ?_)
    intro e2 w2 hh
    obtain ⟨vd, rfl, ho2, hb2⟩ := hh.out
    have H19 : Hid (Calls Tryd.prog 19 #[vd, .slice za n zc] w2 fun e w3 => Hid (∃ vl, e = .returned vl ∧ w3.ownsRow w2.heap.size 5 1 vl n (cellsU8 (plusL n (befL h n A cnt) Z)) ∧ Below w2.heap.size w2 w3)) := rplus_ok vd _ _ Z n w2 (viewOwns ho2 (befL_length _ _ _ _)) ((hZ.out.kept fun b h => HB1.out.block b h).kept fun b h => hb2.block b h) (befL_length _ _ _ _) hZl.out hn.1 hn.2
    have HO2 : Hid (w2.ownsRow w.heap.size 5 1 (.slice none 0 0) 0 (cellsU8 A)) := owns_kept HO1.out hb2
    have HB2 : Hid (Below w.heap.size w w2) := HB1.out.trans (hb2.mono HB1.out.size)
    clear hh ho2 hb2 HTail HO1 HB1
    go_upto_region 12 with (go_at_call 19; refine H19.out.mono ?_)
    intro e3 w3 hh
    obtain ⟨vl, rfl, ho3, hb3⟩ := hh.out
    obtain ⟨g3, c3, rfl⟩ := owns_some ho3 hn.1
    have HO3 : Hid (w3.ownsRow w.heap.size 5 1 (.slice none 0 0) 0 (cellsU8 A)) := owns_kept HO2.out hb3
    have HB3 : Hid (Below w.heap.size w w3) := HB2.out.trans (hb3.mono HB2.out.size)
    have HN3 : Hid (∀ j u, (cellsU8 (plusL n (befL h n A cnt) Z))[j]? = some u → w3.cell? ((⟨g3, 0, none⟩ : Addr).add j) = some u) := fun j u hu => ho3.cells rfl j u hu
    clear hh ho3 hb3 H19 HO2 HB2
    go_wp2_with (first
      | (at_builtin; go_must (refine wpList_append_own _ rfl (.tmp 43) (.tmp 44) 22 rfl w.heap.size 5 i0 (.int .u8 0) 1 1 Tryd.underlying22 hi hz0 hz1 hz2 rfl (by decide) _ _ _ rfl HO3.out ⟨g3, 0, none⟩ n c3 (cellsU8 (plusL n (befL h n A cnt) Z)) rfl (by rw [cellsU8_length, plusL_length, Nat.mul_one]) HN3.out (cellsU8_one _) (by unfold maxLen; omega) (by omega) HB3.out.size ?_)))
    intro v4 w4 hown4 hgrow4 hnil4
    have HB4 : Hid (Below w.heap.size w w4) := HB3.out.grown hgrow4 HB3.out.size (fun q hq => (HO3.out.lt q hq).1)
    have HO4 : Hid (w4.ownsRow w.heap.size 5 1 v4 (0 + n) (cellsU8 (splitL h n cnt Z A))) := by
      rw [← plus_split, cellsU8_append]
      show World.ownsRow _ _ _ _ _ _ _
      rw [Nat.zero_add]
      exact hown4
    clear hown4 hgrow4 hnil4
    go_wp2
    go_ret2
    exact ⟨_, rfl, HO4.out, HB4.out⟩
  · have HX : Hid (∀ j u, (cellsU8 A)[j]? = some u → w.cell? (x.add j) = some u) := hx
    clear hx
    go_enter Tryd.func6, Tryd.ntmps6
    go_upto_region 10 with (first
      | (go_at_call 16; refine (rsize_ok h k _).mono ?_; rintro e1 wx ⟨rfl, hwx⟩; obtain rfl := hwx.symm)
      | (go_at_call 17; refine (H17.out _).mono ?_; rintro e1 wx ⟨rfl, hwx⟩; obtain rfl := hwx.symm)
      | (at_builtin; go_must (refine wpList_append_own _ rfl (.tmp 32) (.tmp 33) 22 rfl w.heap.size 5 i0 (.int .u8 0) 1 1 Tryd.underlying22 hi hz0 hz1 hz2 rfl (by decide) _ 0 [] rfl (World.ownsRow_nil _ _ _ _) x m rc (cellsU8 A) rfl (by rw [cellsU8_length, hAl.out, Nat.mul_one]) HX.out (cellsU8_one A) (by unfold maxLen; omega) (by omega) (Nat.le_refl _) ?_)))
    intro v1 w1 hown hgrow hnil
    have HB1 : Hid (Below w.heap.size w w1) := (Below.refl _ _).grown hgrow (Nat.le_refl _) (by intro k hk; cases hk)
    have HO1 : Hid (w1.ownsRow w.heap.size 5 1 v1 m (cellsU8 A)) := by
      exact hown
    clear hown hgrow hnil
    go_upto_region 10 with fail
    go_upto_region 11 with (go_at_call 18; refine (HTail.out w1 v1 HO1.out HB1.out).mono ?_)
    intro e2 w2 hh
    obtain ⟨vd, rfl, ho2, hb2⟩ := hh.out
    have H19 : Hid (Calls Tryd.prog 19 #[vd, .slice za n zc] w2 fun e w3 => Hid (∃ vl, e = .returned vl ∧ w3.ownsRow w2.heap.size 5 1 vl n (cellsU8 (plusL n (befL h n A cnt) Z)) ∧ Below w2.heap.size w2 w3)) := rplus_ok vd _ _ Z n w2 (viewOwns ho2 (befL_length _ _ _ _)) ((hZ.out.kept fun b h => HB1.out.block b h).kept fun b h => hb2.block b h) (befL_length _ _ _ _) hZl.out hn.1 hn.2
    have HO2 : Hid (w2.ownsRow w.heap.size 5 1 v1 m (cellsU8 A)) := owns_kept HO1.out hb2
    have HB2 : Hid (Below w.heap.size w w2) := HB1.out.trans (hb2.mono HB1.out.size)
    clear hh ho2 hb2 HTail HO1 HB1
    go_upto_region 12 with (go_at_call 19; refine H19.out.mono ?_)
    intro e3 w3 hh
    obtain ⟨vl, rfl, ho3, hb3⟩ := hh.out
    obtain ⟨g3, c3, rfl⟩ := owns_some ho3 hn.1
    have HO3 : Hid (w3.ownsRow w.heap.size 5 1 v1 m (cellsU8 A)) := owns_kept HO2.out hb3
    have HB3 : Hid (Below w.heap.size w w3) := HB2.out.trans (hb3.mono HB2.out.size)
    have HN3 : Hid (∀ j u, (cellsU8 (plusL n (befL h n A cnt) Z))[j]? = some u → w3.cell? ((⟨g3, 0, none⟩ : Addr).add j) = some u) := fun j u hu => ho3.cells rfl j u hu
    clear hh ho3 hb3 H19 HO2 HB2
    go_wp2_with (first
      | (at_builtin; go_must (refine wpList_append_own _ rfl (.tmp 43) (.tmp 44) 22 rfl w.heap.size 5 i0 (.int .u8 0) 1 1 Tryd.underlying22 hi hz0 hz1 hz2 rfl (by decide) _ _ _ rfl HO3.out ⟨g3, 0, none⟩ n c3 (cellsU8 (plusL n (befL h n A cnt) Z)) rfl (by rw [cellsU8_length, plusL_length, Nat.mul_one]) HN3.out (cellsU8_one _) (by unfold maxLen; omega) (by omega) HB3.out.size ?_)))
    intro v4 w4 hown4 hgrow4 hnil4
    have HB4 : Hid (Below w.heap.size w w4) := HB3.out.grown hgrow4 HB3.out.size (fun q hq => (HO3.out.lt q hq).1)
    have HO4 : Hid (w4.ownsRow w.heap.size 5 1 v4 (m + n) (cellsU8 (splitL h n cnt Z A))) := by
      rw [← plus_split, cellsU8_append]
      exact hown4
    clear hown4 hgrow4 hnil4
    go_wp2
    go_ret2
    exact ⟨_, rfl, HO4.out, HB4.out⟩
theorem rspl_ok (h : Int) (v r : Value) (Z A : List Int) (st : Int) (w : World) (hR : RTab w) (hv : View w v Z) (hr : View w r A) :
    Calls Tryd.prog 6 #[.int .i64 h, v, .int .i64 st, r] w fun e w' => ∃ v', e = .returned (.tuple #[v', .int .i64 (splE h Z.length st A.length)]) ∧ w'.ownsRow w.heap.size 5 1 v' (splL h Z st A).length (cellsU8 (splL h Z st A)) ∧ Below w.heap.size w w' := by
  obtain ⟨a, c, hveq, hzl⟩ := view_len hv
  obtain ⟨ra, rc, hreq, hal⟩ := view_len hr
  by_cases k : Known h
  · by_cases hE : rndE Z.length st = 0
    · by_cases hN : (A.length : Int) = rndN Z.length st
      · have g : splGood h Z.length st A.length := ⟨k, hE, hN⟩
        have e1 : splE h Z.length st A.length = 0 := by unfold splE; rw [if_neg (by simpa using k), if_neg (by simpa using hE), if_neg (by simpa using hN)]
        obtain ⟨cnt, ec, est, erl, hn1, hn2, hc⟩ := good_split g
        have e2 : splL h Z st A = splitL h Z.length cnt Z A := by unfold splL; rw [if_pos g, ← ec]
        have hmb : A.length ≤ 10000000 := by
          have : Z.length * cnt ≤ 1024 * 4000 := Nat.mul_le_mul hn2 (by omega)
          omega
        rw [e1, e2, splitL_length, hveq, hreq]
        rw [hveq] at hv
        rw [hreq] at hr
        exact rspl_good k a Z.length c Z A ra A.length rc cnt st est w hR ⟨hn1, hn2⟩ hc erl hmb hv rfl hr rfl
      · have e1 : splE h Z.length st A.length = 41 := by unfold splE; rw [if_neg (by simpa using k), if_neg (by simpa using hE), if_pos hN]
        have e2 : splL h Z st A = [] := by unfold splL; rw [if_neg (fun g => hN g.2.2)]
        rw [e1, e2, hveq, hreq]
        refine (rspl_mat k a Z.length c hzl ra A.length rc hal st w (rndN Z.length st) hN hE rfl).mono ?_
        rintro e w' ⟨rfl, rfl⟩
        exact ⟨_, rfl, World.ownsRow_nil _ _ _ _, Below.refl _ _⟩
    · have e1 : splE h Z.length st A.length = rndE Z.length st := by unfold splE; rw [if_neg (by simpa using k), if_pos hE]
      have e2 : splL h Z st A = [] := by unfold splL; rw [if_neg (fun g => hE g.2.1)]
      rw [e1, e2, hveq]
      refine (rspl_err k a Z.length c hzl r st w (rndE Z.length st) hE rfl).mono ?_
      rintro e w' ⟨rfl, rfl⟩
      exact ⟨_, rfl, World.ownsRow_nil _ _ _ _, Below.refl _ _⟩
  · have e1 : splE h Z.length st A.length = 10 := by unfold splE; rw [if_pos k]
    have e2 : splL h Z st A = [] := by unfold splL; rw [if_neg (fun g => k g.1)]
    rw [e1, e2]
    refine (rspl_bad k v r st w).mono ?_
    rintro e w' ⟨rfl, rfl⟩
    exact ⟨_, rfl, World.ownsRow_nil _ _ _ _, Below.refl _ _⟩
end Go.Proofs.YtcopkohklgbpgabDoor
namespace Go.Proofs.YtcopkohklgbpgabDoor
open Go.RowKit Go.Shelf
set_option linter.unusedVariables false
set_option linter.unusedSimpArgs false
/-- The two lists that the law lays down. -/
def two (w : World) : World := (w.alloc (.cells #[.int .u8 1, .int .u8 2] 5)).alloc (.cells #[.int .u8 7, .int .u8 7] 5)
theorem two_size (w : World) : (two w).heap.size = w.heap.size + 2 := by unfold two; rw [size_alloc, size_alloc]
theorem two_below (w : World) : Below w.heap.size w (two w) := ((Below.refl w.heap.size w).alloc (Nat.le_refl _) _).alloc (by rw [size_alloc]; omega) _
theorem two_v1 (w : World) : View (two w) (.slice (some ⟨w.heap.size, 0, none⟩) 2 2) [1, 2] :=
  (view12 w).kept fun b hb => Below.heap_alloc _ _ b hb
theorem two_v2 (w : World) : View (two w) (.slice (some ⟨w.heap.size + 1, 0, none⟩) 2 2) [7, 7] := by
  have q := viewOwns (owns_lit (w.alloc (.cells #[.int .u8 1, .int .u8 2] 5)) [7, 7] 2 rfl (by decide)) rfl
  rw [size_alloc] at q
  exact q
theorem splE12 : splE 512 ([1, 2] : List Int).length 2 ([7, 7] : List Int).length = 0 := by decide
set_option maxHeartbeats 3200000 in
set_option maxRecDepth 100000 in
theorem splits_core (h st : Int) (za ra : Option Addr) (zn zc rn rc : Nat) (Z A : List Int) (ws : World) (hT0 : Hid (Tables ws)) (hR0 : Hid (RTab ws)) (hv0 : Hid (View ws (.slice za zn zc) Z)) (hr0 : Hid (View ws (.slice ra rn rc) A)) (hZl : Hid (Z.length = zn)) (hAl : Hid (A.length = rn)) (hzn : zn + rn ≤ 32768) :
    Calls Tryd.prog 3 #[.agg #[.int .i64 h, .slice za zn zc, .int .i64 st, .slice ra rn rc]] ws fun e w' => e = .returned (.bool true) ∧ Below ws.heap.size ws w' := by
  have hlong : ¬ (32768 : Int) < (zn : Nat) + (rn : Nat) := by omega
  obtain ⟨w, HWa⟩ : ∃ w, Hid (w = ws.alloc (.cells #[.int .i64 h, .slice za zn zc, .int .i64 st, .slice ra rn rc] 24)) := ⟨_, rfl⟩
  have HBa : Hid (Below ws.heap.size ws w) := by rw [HWa.out]; exact (Below.refl _ _).alloc (Nat.le_refl _) _
  have hT : Hid (Tables w) := hT0.out.below HBa.out hT0.out.size
  have hR : Hid (RTab w) := hR0.out.below HBa.out hR0.out.size
  have hv : Hid (View w (.slice za zn zc) Z) := hv0.out.kept fun b hb => HBa.out.block b hb
  have hr : Hid (View w (.slice ra rn rc) A) := hr0.out.kept fun b hb => HBa.out.block b hb
  have HF : Hid (∀ u : World, Below w.heap.size w u → u.cell? ⟨ws.heap.size, 0, none⟩ = some (.int .i64 h) ∧ u.cell? ⟨ws.heap.size, 1, none⟩ = some (.slice za zn zc) ∧ u.cell? ⟨ws.heap.size, 2, none⟩ = some (.int .i64 st) ∧ u.cell? ⟨ws.heap.size, 3, none⟩ = some (.slice ra rn rc)) := fun u hu => by
    have hlt : ws.heap.size < w.heap.size := by rw [HWa.out, size_alloc]; omega
    have r := rangeAt_new ws #[.int .i64 h, .slice za zn zc, .int .i64 st, .slice ra rn rc] 24
    rw [← HWa.out] at r
    refine ⟨?_, ?_, ?_, ?_⟩
    · rw [hu.cell (p := ⟨ws.heap.size, 0, none⟩) hlt]
      exact r 0 _ rfl
    · rw [hu.cell (p := ⟨ws.heap.size, 1, none⟩) hlt]
      exact r 1 _ rfl
    · rw [hu.cell (p := ⟨ws.heap.size, 2, none⟩) hlt]
      exact r 2 _ rfl
    · rw [hu.cell (p := ⟨ws.heap.size, 3, none⟩) hlt]
      exact r 3 _ rfl
  have hT4 := hT.out.size
  obtain ⟨fa, fb, fc, fd⟩ := HF.out w (Below.refl _ _)
  have H4a : Hid (Calls Tryd.prog 4 #[.slice za zn zc] w fun e w' => Hid (∃ v', e = .returned v' ∧ Marked w.heap.size w' v' Z ∧ Below w.heap.size w w')) := copy_any _ Z w (by rw [hZl.out]; omega) hv.out
  go_enter Tryd.func3, Tryd.ntmps3
  go_upto_region 1 with fail
  rw [← HWa.out]
  go_upto_region 4 with (go_at_call 4; refine H4a.out.mono ?_)
  intro e0 wa hh
  obtain ⟨vs, rfl, hma, hba⟩ := hh.out
  have HB0 : Hid (Below w.heap.size w wa) := hba
  have HMa : Hid (Marked w.heap.size wa vs Z) := hma
  clear hh hma hba H4a fa fb fc fd
  obtain ⟨fa, fb, fc, fd⟩ := HF.out wa HB0.out
  have H4b : Hid (Calls Tryd.prog 4 #[.slice ra rn rc] wa fun e w' => Hid (∃ v', e = .returned v' ∧ Marked wa.heap.size w' v' A ∧ Below wa.heap.size wa w')) := copy_any _ A wa (by rw [hAl.out]; omega) (hr.out.kept fun b hb => HB0.out.block b hb)
  go_upto_region 5 with (go_at_call 4; refine H4b.out.mono ?_)
  intro e1 w1 hh
  obtain ⟨vr, rfl, hmb, hbb⟩ := hh.out
  have HB1 : Hid (Below w.heap.size w w1) := HB0.out.trans (hbb.mono HB0.out.size)
  have HM1 : Hid (Marked w.heap.size w1 vs Z) := HMa.out.kept fun b hb => hbb.block b hb
  have HN1 : Hid (Marked wa.heap.size w1 vr A) := hmb
  clear hh hmb hbb H4b fa fb fc fd HMa HB0
  obtain ⟨fa, fb, fc, fd⟩ := HF.out w1 HB1.out
  obtain ⟨E, HE⟩ : ∃ E, Hid (E = splE h Z.length st A.length) := ⟨_, rfl⟩
  have H5 : Hid (Calls Tryd.prog 5 #[.int .i64 h, vs, .int .i64 st, vr] w1 fun e w' => Hid (∃ v', e = .returned (.tuple #[v', .int .i64 (splE h Z.length st A.length)]) ∧ Ans w1.heap.size w' v' (splL h Z st A) ∧ Below w1.heap.size w1 w')) := spl_ok h vs vr Z A st w1 (hT.out.below HB1.out hT4) HM1.out.view HN1.out.view
  rw [← HE.out] at H5
  go_upto_region 6 with (go_at_call 5; refine H5.out.mono ?_)
  intro e2 w2 hh
  obtain ⟨vx, rfl, hA2, hb2⟩ := hh.out
  have HB2 : Hid (Below w1.heap.size w1 w2) := hb2
  have HX2 : Hid (Ans w1.heap.size w2 vx (splL h Z st A)) := hA2
  clear hh hA2 hb2 H5 fa fb fc fd
  have HB02 : Hid (Below w.heap.size w w2) := HB1.out.trans (HB2.out.mono HB1.out.size)
  have H5b : Hid (Calls Tryd.prog 5 #[.int .i64 512, .slice (some ⟨w2.heap.size, 0, none⟩) 2 2, .int .i64 2, .slice (some ⟨w2.heap.size + 1, 0, none⟩) 2 2] ((w2.alloc (.cells #[.int .u8 1, .int .u8 2] 5)).alloc (.cells #[.int .u8 7, .int .u8 7] 5)) fun e w' => Hid (∃ v', e = .returned (.tuple #[v', .int .i64 0]) ∧ Ans (w2.heap.size + 2) w' v' (splL 512 [1, 2] 2 [7, 7]) ∧ Below w2.heap.size w2 w')) := by
    have hb := two_below w2
    have h1 := HB02.out.size
    have q := spl_ok 512 _ _ [1, 2] [7, 7] 2 (two w2) ((hT.out.below HB02.out hT4).below hb (by omega)) (two_v1 w2) (two_v2 w2)
    rw [splE12, two_size] at q
    exact q.mono fun e w' hh => by
      obtain ⟨v', q1, q2, q3⟩ := hh
      exact ⟨v', q1, q2, hb.trans (q3.mono (by omega))⟩
  go_upto_region 7 with (go_at_call 5; refine H5b.out.mono ?_)
  intro e3 w3 hh
  obtain ⟨vz, rfl, hA3, hb3⟩ := hh.out
  have HB3 : Hid (Below w2.heap.size w2 w3) := hb3
  have HZ3 : Hid (Ans (w2.heap.size + 2) w3 vz (splL 512 [1, 2] 2 [7, 7])) := hA3
  clear hh hA3 hb3 H5b
  have HB13 : Hid (Below w1.heap.size w1 w3) := HB2.out.trans (HB3.out.mono HB2.out.size)
  have HB03 : Hid (Below w.heap.size w w3) := HB1.out.trans (HB13.out.mono HB1.out.size)
  obtain ⟨fa, fb, fc, fd⟩ := HF.out w3 HB03.out
  have H5c : Hid (Calls Tryd.prog 5 #[.int .i64 h, vs, .int .i64 st, vr] w3 fun e w' => Hid (∃ v', e = .returned (.tuple #[v', .int .i64 (splE h Z.length st A.length)]) ∧ Ans w3.heap.size w' v' (splL h Z st A) ∧ Below w3.heap.size w3 w')) := spl_ok h vs vr Z A st w3 (hT.out.below HB03.out hT4) (HM1.out.view.kept fun b hb => HB13.out.block b hb) (HN1.out.view.kept fun b hb => HB13.out.block b hb)
  rw [← HE.out] at H5c
  go_upto_region 8 with (go_at_call 5; refine H5c.out.mono ?_)
  intro e4 w4 hh
  obtain ⟨vy, rfl, hA4, hb4⟩ := hh.out
  have HB4 : Hid (Below w3.heap.size w3 w4) := hb4
  have HY4 : Hid (Ans w3.heap.size w4 vy (splL h Z st A)) := hA4
  clear hh hA4 hb4 H5c fa fb fc fd
  have HB04 : Hid (Below w.heap.size w w4) := HB03.out.trans (HB4.out.mono HB03.out.size)
  obtain ⟨fa, fb, fc, fd⟩ := HF.out w4 HB04.out
  have H6 : Hid (Calls Tryd.prog 6 #[.int .i64 h, .slice za zn zc, .int .i64 st, .slice ra rn rc] w4 fun e w' => Hid (∃ v', e = .returned (.tuple #[v', .int .i64 (splE h Z.length st A.length)]) ∧ w'.ownsRow w4.heap.size 5 1 v' (splL h Z st A).length (cellsU8 (splL h Z st A)) ∧ Below w4.heap.size w4 w')) := rspl_ok h _ _ Z A st w4 (hR.out.below HB04.out hR.out.size) (hv.out.kept fun b hb => HB04.out.block b hb) (hr.out.kept fun b hb => HB04.out.block b hb)
  rw [← HE.out] at H6
  go_upto_region 9 with (go_at_call 6; refine H6.out.mono ?_)
  intro e5 w5 hh
  obtain ⟨vw, rfl, hA5, hb5⟩ := hh.out
  have HB5 : Hid (Below w4.heap.size w4 w5) := hb5
  have HW5 : Hid (w5.ownsRow w4.heap.size 5 1 vw (splL h Z st A).length (cellsU8 (splL h Z st A))) := hA5
  clear hh hA5 hb5 H6 fa fb fc fd
  have HB05 : Hid (Below w.heap.size w w5) := HB04.out.trans (HB5.out.mono HB04.out.size)
  have H6b : Hid (Calls Tryd.prog 6 #[.int .i64 512, .slice (some ⟨w5.heap.size, 0, none⟩) 2 2, .int .i64 2, .slice (some ⟨w5.heap.size + 1, 0, none⟩) 2 2] ((w5.alloc (.cells #[.int .u8 1, .int .u8 2] 5)).alloc (.cells #[.int .u8 7, .int .u8 7] 5)) fun e w' => Hid (∃ v', e = .returned (.tuple #[v', .int .i64 0]) ∧ w'.ownsRow (w5.heap.size + 2) 5 1 v' (splL 512 [1, 2] 2 [7, 7]).length (cellsU8 (splL 512 [1, 2] 2 [7, 7])) ∧ Below w5.heap.size w5 w')) := by
    have hb := two_below w5
    have h1 := HB05.out.size
    have h3 := hR.out.size
    have q := rspl_ok 512 _ _ [1, 2] [7, 7] 2 (two w5) ((hR.out.below HB05.out h3).below hb (by omega)) (two_v1 w5) (two_v2 w5)
    rw [splE12, two_size] at q
    exact q.mono fun e w' hh => by
      obtain ⟨v', q1, q2, q3⟩ := hh
      exact ⟨v', q1, q2, hb.trans (q3.mono (by omega))⟩
  go_upto_region 10 with (go_at_call 6; refine H6b.out.mono ?_)
  intro e6 w6 hh
  obtain ⟨vv, rfl, hA6, hb6⟩ := hh.out
  have HB6 : Hid (Below w5.heap.size w5 w6) := hb6
  have HV6 : Hid (w6.ownsRow (w5.heap.size + 2) 5 1 vv (splL 512 [1, 2] 2 [7, 7]).length (cellsU8 (splL 512 [1, 2] 2 [7, 7]))) := hA6
  clear hh hA6 hb6 H6b
  have HS : Hid (w.heap.size ≤ w1.heap.size ∧ w1.heap.size ≤ w2.heap.size ∧ w2.heap.size ≤ w3.heap.size ∧ w3.heap.size ≤ w4.heap.size ∧ w4.heap.size ≤ w5.heap.size ∧ w5.heap.size ≤ w6.heap.size) := ⟨HB1.out.size, HB2.out.size, HB3.out.size, HB4.out.size, HB5.out.size, HB6.out.size⟩
  have HB46 : Hid (Below w4.heap.size w4 w6) := HB5.out.trans (HB6.out.mono HB5.out.size)
  have HB36 : Hid (Below w3.heap.size w3 w6) := HB4.out.trans (HB46.out.mono HB4.out.size)
  have HB26 : Hid (Below w2.heap.size w2 w6) := HB3.out.trans (HB36.out.mono HB3.out.size)
  have HB16 : Hid (Below w1.heap.size w1 w6) := HB2.out.trans (HB26.out.mono HB2.out.size)
  have HB06 : Hid (Below w.heap.size w w6) := HB1.out.trans (HB16.out.mono HB1.out.size)
  have HX : Hid (Ans w1.heap.size w6 vx (splL h Z st A)) := HX2.out.below HB26.out
  have HZz : Hid (Ans (w2.heap.size + 2) w6 vz (splL 512 [1, 2] 2 [7, 7])) := HZ3.out.below HB36.out
  have HY : Hid (Ans w3.heap.size w6 vy (splL h Z st A)) := HY4.out.below HB46.out
  have HW : Hid (w6.ownsRow w4.heap.size 5 1 vw (splL h Z st A).length (cellsU8 (splL h Z st A))) := owns_kept HW5.out HB6.out
  have HM : Hid (Marked w.heap.size w6 vs Z) := HM1.out.kept fun b hb => HB16.out.block b hb
  have HN : Hid (Marked wa.heap.size w6 vr A) := HN1.out.kept fun b hb => HB16.out.block b hb
  have hl1 : (splL h Z st A).length ≤ 32768 := by
    have := splL_length h Z st A
    rw [hZl.out, hAl.out] at this
    omega
  have hl2 : (splL 512 [1, 2] 2 [7, 7]).length ≤ 32768 := by
    have := splL_length 512 [1, 2] 2 [7, 7]
    simp at this
    omega
  have HVW : Hid (View w6 vw (splL h Z st A)) := viewOwns HW.out rfl
  have HVV : Hid (View w6 vv (splL 512 [1, 2] 2 [7, 7])) := viewOwns HV6.out rfl
  have C1 : Hid (∀ u : World, u.heap = w6.heap → Calls Tryd.prog 8 #[vx, vw] u fun e w' => e = .returned (.bool true) ∧ ∃ m, w' = u.drewN m) := fun u hu => by
    have q := same_any vx vw (splL h Z st A) (splL h Z st A) u ((HX.out.view (by omega)).kept fun b _ => by rw [hu]) (HVW.out.kept fun b _ => by rw [hu])
    rw [show decide (splL h Z st A = splL h Z st A) = true from decide_eq_true rfl] at q
    exact q
  have C2 : Hid (∀ u : World, u.heap = w6.heap → Calls Tryd.prog 8 #[vy, vw] u fun e w' => e = .returned (.bool true) ∧ ∃ m, w' = u.drewN m) := fun u hu => by
    have q := same_any vy vw (splL h Z st A) (splL h Z st A) u ((HY.out.view (by omega)).kept fun b _ => by rw [hu]) (HVW.out.kept fun b _ => by rw [hu])
    rw [show decide (splL h Z st A = splL h Z st A) = true from decide_eq_true rfl] at q
    exact q
  have C3 : Hid (∀ u : World, u.heap = w6.heap → Calls Tryd.prog 9 #[vs, .slice za zn zc] u fun e w' => e = .returned (.bool true) ∧ ∃ m, w' = u.drewN m) := fun u hu =>
    whole_any vs _ Z w.heap.size u (HM.out.kept fun b _ => by rw [hu]) ((hv.out.kept fun b hb => HB06.out.block b hb).kept fun b _ => by rw [hu])
  have C3b : Hid (∀ u : World, u.heap = w6.heap → Calls Tryd.prog 9 #[vr, .slice ra rn rc] u fun e w' => e = .returned (.bool true) ∧ ∃ m, w' = u.drewN m) := fun u hu =>
    whole_any vr _ A wa.heap.size u (HN.out.kept fun b _ => by rw [hu]) ((hr.out.kept fun b hb => HB06.out.block b hb).kept fun b _ => by rw [hu])
  have C4 : Hid (∀ u : World, u.heap = w6.heap → Calls Tryd.prog 10 #[vx] u fun e w' => e = .returned (.tuple #[]) ∧ u.grownBy w' vx.ownBlock) := fun u hu =>
    (HX.out.kept (fun b _ => by rw [hu]) (by rw [hu]; exact Nat.le_refl _)).spoil (by omega)
  have HXb : Hid (∀ b, vx.ownBlock = some b → w.heap.size ≤ b ∧ b < w2.heap.size) := fun b hb => ⟨Nat.le_trans HS.out.1 (HX2.out.ge hb).1, (HX2.out.ge hb).2⟩
  obtain ⟨fa, fb, fc, fd⟩ := HF.out w6 HB06.out
  clear HX2 HZ3 HY4 HW5 HM1 HN1 HB1 HB2 HB3 HB4 HB5 HB6 HB13 HB04 HB46 HB36 HB26 HB16 HB02 HB03 HB05
  go_wp2_with (go_at_call 7; refine (num_ok _ _).mono ?_; rintro e1 wx ⟨rfl, hwx⟩; obtain rfl := hwx.symm)
  refine (C1.out _ ?_).mono ?_
  · rfl
  rintro e7 w7 ⟨rfl, m7, rfl⟩
  go_wp2_with fail
  refine (C2.out _ ?_).mono ?_
  · rfl
  rintro e8 w8 ⟨rfl, m8, rfl⟩
  go_wp2_with fail
  refine (C3.out _ ?_).mono ?_
  · rfl
  rintro e9 w9 ⟨rfl, m9, rfl⟩
  go_wp2_with fail
  refine (C3b.out _ ?_).mono ?_
  · rfl
  rintro e9b w9b ⟨rfl, m9b, rfl⟩
  go_wp2_with fail
  refine (C4.out _ ?_).mono ?_
  · rfl
  rintro e10 w10 ⟨rfl, hg⟩
  have HVY : Hid (View w10 vy (splL h Z st A)) := ((HY.out.view (by omega)).kept (w' := w6.drewN (m7 + m8 + m9 + m9b)) fun b _ => rfl).grown hg (HY.out.apart fun b hb => by have := (HXb.out b hb).2; have := HS.out; omega)
  have HVW2 : Hid (View w10 vw (splL h Z st A)) := (HVW.out.kept (w' := w6.drewN (m7 + m8 + m9 + m9b)) fun b _ => rfl).grown hg (owns_apart HW.out fun b hb => by have := (HXb.out b hb).2; have := HS.out; omega)
  have HVZ : Hid (View w10 vz (splL 512 [1, 2] 2 [7, 7])) := ((HZz.out.view (by omega)).kept (w' := w6.drewN (m7 + m8 + m9 + m9b)) fun b _ => rfl).grown hg (HZz.out.apart fun b hb => by have := (HXb.out b hb).2; have := HS.out; omega)
  have HVV2 : Hid (View w10 vv (splL 512 [1, 2] 2 [7, 7])) := (HVV.out.kept (w' := w6.drewN (m7 + m8 + m9 + m9b)) fun b _ => rfl).grown hg (owns_apart HV6.out fun b hb => by have := (HXb.out b hb).2; have := HS.out; omega)
  have HB10 : Hid (Below w.heap.size w w10) := by
    have hb : Below w.heap.size w (w6.drewN (m7 + m8 + m9 + m9b)) := ⟨HB06.out.os, HB06.out.tape, HB06.out.output, HB06.out.size, HB06.out.block⟩
    exact hb.grown hg hb.size (fun b hb => (HXb.out b hb).1)
  have C5 : Hid (∀ u : World, u.heap = w10.heap → Calls Tryd.prog 8 #[vy, vw] u fun e w' => e = .returned (.bool true) ∧ ∃ m, w' = u.drewN m) := fun u hu => by
    have q := same_any vy vw (splL h Z st A) (splL h Z st A) u (HVY.out.kept fun b _ => by rw [hu]) (HVW2.out.kept fun b _ => by rw [hu])
    rw [show decide (splL h Z st A = splL h Z st A) = true from decide_eq_true rfl] at q
    exact q
  have C6 : Hid (∀ u : World, u.heap = w10.heap → Calls Tryd.prog 8 #[vz, vv] u fun e w' => e = .returned (.bool true) ∧ ∃ m, w' = u.drewN m) := fun u hu => by
    have q := same_any vz vv (splL 512 [1, 2] 2 [7, 7]) (splL 512 [1, 2] 2 [7, 7]) u (HVZ.out.kept fun b _ => by rw [hu]) (HVV2.out.kept fun b _ => by rw [hu])
    rw [show decide (splL 512 [1, 2] 2 [7, 7] = splL 512 [1, 2] 2 [7, 7]) = true from decide_eq_true rfl] at q
    exact q
  clear hg C1 C2 C3 C3b C4 HX HY HW HZz HM HN HVW HVV HV6 HB06 fa fb fc fd
  go_wp2_with fail
  refine (C5.out _ ?_).mono ?_
  · rfl
  rintro e11 w11 ⟨rfl, m11, rfl⟩
  go_wp2_with fail
  refine (C6.out _ ?_).mono ?_
  · rfl
  rintro e12 w12 ⟨rfl, m12, rfl⟩
  go_wp2_with fail
  go_ret
  have hx := HBa.out.trans (HB10.out.mono HBa.out.size)
  exact ⟨rfl, ⟨hx.os, hx.tape, hx.output, hx.size, hx.block⟩⟩
set_option maxHeartbeats 400000 in
theorem splits_long (h st : Int) (za ra : Option Addr) (zn zc rn rc : Nat) (ws : World) (hzn : 32768 < zn + rn) (hz2 : zn + rn ≤ 9223372036854775807) :
    Calls Tryd.prog 3 #[.agg #[.int .i64 h, .slice za zn zc, .int .i64 st, .slice ra rn rc]] ws fun e w' => e = .returned (.bool true) ∧ Below ws.heap.size ws w' := by
  have hlong : (32768 : Int) < (zn : Nat) + (rn : Nat) := by omega
  have hb : Hid (Below ws.heap.size ws (ws.alloc (.cells #[.int .i64 h, .slice za zn zc, .int .i64 st, .slice ra rn rc] 24))) := (Below.refl _ _).alloc (Nat.le_refl _) _
  go_enter Tryd.func3, Tryd.ntmps3
  go_wp2
  go_ret
  exact ⟨rfl, hb.out⟩
theorem splits_ok (h st : Int) (za ra : Option Addr) (zn zc rn rc : Nat) (Z A : List Int) (ws : World) (hT : Tables ws) (hR : RTab ws) (hv : View ws (.slice za zn zc) Z) (hZl : Z.length = zn) (hr : View ws (.slice ra rn rc) A) (hAl : A.length = rn) (hmax : zn + rn ≤ 9223372036854775807) :
    Calls Tryd.prog 3 #[.agg #[.int .i64 h, .slice za zn zc, .int .i64 st, .slice ra rn rc]] ws fun e w' => e = .returned (.bool true) ∧ Below ws.heap.size ws w' := by
  by_cases hl : zn + rn ≤ 32768
  · exact splits_core h st za ra zn zc rn rc Z A ws hT hR hv hr hZl hAl hl
  · exact splits_long h st za ra zn zc rn rc ws (by omega) hmax
end Go.Proofs.YtcopkohklgbpgabDoor
namespace Go.Proofs.YtcopkohklgbpgabDoor
open Go.ChangeShapes Go.WideShapes Go.ChangeAt Go.RowKit

theorem own : ownKnob Tryd.prog.godebug = none := by kernel_rfl
theorem laidOut : laidOutB Tryd.prog = true := by kernel_rfl
theorem cells5 : Tryd.prog.cellsOf 5 = 1 := by kernel_rfl
theorem bytes5 : Tryd.prog.bytesOf 5 = 1 := by kernel_rfl

/-- What came in as a list of bytes. -/
theorem open_bytes {H : Type} {enc : TypeId × Value → H} {W : World} {a : Option Addr} {len cap : Nat} {d : DataW H} {p : List MemPlace}
    (h : DataW.Trod enc Tryd.prog W 0 (fun _ => true) true 22 (.slice a len cap) d p) :
    ∃ xs : List Int, xs.length = len ∧ AllBytes xs ∧ View W (.slice a len cap) xs ∧ (d = .nil ∧ xs = [] ∨ ∃ sp, d = .slice (lits .u8 xs) sp) := by
  obtain ⟨fuel, hf⟩ := h
  rcases open_ints Tryd.underlying22 Tryd.underlying5 cells5 hf with ⟨hcs, hx⟩ | ⟨x, l, c, zs, hcs, _, hl, hm, hz, hx, hcell, hwz⟩
  · simp [Value.cells] at hcs
    obtain ⟨rfl, rfl, rfl⟩ := hcs
    simp only [Prod.mk.injEq] at hx
    refine ⟨[], rfl, fun i => by simp, ⟨none, 0, rfl, Nat.le_refl _, by simp, fun _ => rfl, .inl rfl⟩, .inl ⟨hx.1, rfl⟩⟩
  · simp [Value.cells] at hcs
    obtain ⟨rfl, rfl, rfl⟩ := hcs
    simp only [Prod.mk.injEq] at hx
    have hzl : zs.length = cap := by simpa using hz
    have hlen : (zs.take len).length = len := by simp; omega
    have hw : ∀ n ∈ zs, 0 ≤ n ∧ n < 256 := by
      intro n hn
      have := hwz n hn
      have h1 : IntKind.u8.min = 0 := rfl
      have h2 : IntKind.u8.max = 255 := rfl
      simp only [Lit.wf, Bool.and_eq_true, decide_eq_true_eq] at this
      omega
    refine ⟨zs.take len, hlen, ?_, ⟨some x, cap, by rw [hlen], by omega, hm, (fun h => by cases h), ?_⟩, .inr ⟨_, hx.1⟩⟩
    · intro i
      rw [List.getD_eq_getElem?_getD]
      cases hg : (zs.take len)[i]? with
      | none => simp
      | some n =>
        have hn : n ∈ zs := List.mem_of_mem_take (List.mem_of_getElem? hg)
        simpa using hw n hn
    · by_cases h0 : len = 0
      · left
        subst h0
        simp
      · right
        obtain ⟨b, off, spot⟩ := x
        have hc0 := hcell 0 (by omega)
        have hspot : spot = none := by simpa [Addr.add] using World.cell?_spot hc0
        subst hspot
        refine ⟨b, off, rfl, fun i hi => ?_⟩
        rw [hlen] at hi
        have := hcell i (by omega)
        rw [Addr.add_lit] at this
        rw [this]
        congr 2
        simp [List.getD_eq_getElem?_getD, hi]

/-- The reach of it. -/
theorem reach_bytes {H : Type} {ts : List TypeId} {ds : List (DataW H)} (hsz : (DataW.weightsEach Tryd.prog ts ds).all (· ≤ reachBytes) = true) {j : Nat} {d : DataW H} {xs : List Int}
    (ht : ts[j]? = some 22) (hd : ds[j]? = some d) (h : d = .nil ∧ xs = [] ∨ ∃ sp, d = .slice (lits .u8 xs) sp) : xs.length ≤ 140737488351232 := by
  rcases h with ⟨_, rfl⟩ | ⟨sp, rfl⟩
  · simp
  · have := sized_slice hsz (j := j) (t := 22) (e := 5) ht hd Tryd.underlying22
    rw [bytes5] at this
    simp only [lits, List.length_map, reachBytes] at this
    omega
end Go.Proofs.YtcopkohklgbpgabDoor
namespace Go.Proofs.YtcopkohklgbpgabDoor
open Go.ChangeShapes Go.WideShapes Go.ChangeAt Go.RowKit
set_option linter.unusedVariables false

theorem cells3 : Tryd.prog.cellsOf 3 = 1 := by kernel_rfl
theorem cells22 : Tryd.prog.cellsOf 22 = 1 := by kernel_rfl
set_option maxRecDepth 100000 in
/-- An int's cell. -/
theorem cell_int {H : Type} {enc : TypeId × Value → H} {W : World} {n : Nat} {c : Value} {y : DataW H × List MemPlace} (h : DataW.trod enc Tryd.prog W 0 (fun _ => true) true n 3 [c] = some y) : ∃ z, c = .int .i64 z := by
  obtain ⟨z, hz, _⟩ := DataW.trod_int Tryd.underlying3 h
  exact ⟨z, by simpa using hz⟩
theorem cell_bytes {H : Type} {enc : TypeId × Value → H} {W : World} {n : Nat} {c : Value} {y : DataW H × List MemPlace} (h : DataW.trod enc Tryd.prog W 0 (fun _ => true) true n 22 [c] = some y) : ∃ a l cap xs, c = .slice a l cap ∧ View W (.slice a l cap) xs ∧ AllBytes xs ∧ xs.length = l := by
  have hc : ∃ a l cap, c = .slice a l cap := by
    rcases open_ints Tryd.underlying22 Tryd.underlying5 cells5 h with ⟨hcs, _⟩ | ⟨a, l, cap, zs, hcs, _⟩
    · exact ⟨none, 0, 0, by simpa using hcs⟩
    · exact ⟨some a, l, cap, by simpa using hcs⟩
  obtain ⟨a, l, cap, rfl⟩ := hc
  obtain ⟨xs, hl, hb, hv, _⟩ := open_bytes (enc := enc) (W := W) (a := a) (len := l) (cap := cap) (d := y.1) (p := y.2) ⟨n, by simpa [Value.cells] using h⟩
  exact ⟨a, l, cap, xs, rfl, hv, hb, hl⟩
/-- The tables, as the row lays them. -/
theorem tables_of {W : World} (h : laidMet Tryd.prog [("coffer/digest.roots", Lib.tabData .u64 rootsL), ("coffer/digest.cubes", Lib.tabData .u64 cubesL)] W) : Tables W := by
  have hr : Lib.TabIs Tryd.prog W "coffer/digest.roots" .u64 rootsL := Lib.tabIs_of_head (g := 0) (t := 96) (e := 63) (n := 16) (by kernel_rfl) (by kernel_rfl) (by kernel_rfl) (by kernel_rfl) (by kernel_rfl) (by kernel_rfl) h
  have hc : Lib.TabIs Tryd.prog W "coffer/digest.cubes" .u64 cubesL := by
    obtain ⟨ps, ⟨g1, t1, cs1, fuel1, p1, q1, _, _, _, _, hrest, _⟩, _⟩ := h
    obtain ⟨g', t', cs, fuel, p, q, hg', ht', hvar, hd, _, _⟩ := hrest
    have hg : Tryd.prog.globalNamed "coffer/digest.cubes" = some 3 := by kernel_rfl
    obtain rfl := Option.some.inj (hg.symm.trans hg')
    have hty : (Tryd.prog.globals[3]?).map (·.type) = some 92 := by kernel_rfl
    obtain rfl := Option.some.inj (hty.symm.trans ht')
    unfold Lib.TabIs
    rw [hvar, ← Lib.cells_of_tab (n := 80) (e := 63) (by kernel_rfl) (by kernel_rfl) (by kernel_rfl) (by kernel_rfl) hd]
  exact ⟨fun t ht => hc.cell (by kernel_rfl) t (by simpa [cubesL] using ht), fun t ht => hr.cell (by kernel_rfl) t (by simpa [rootsL] using ht)⟩
end Go.Proofs.YtcopkohklgbpgabDoor
namespace Go.Proofs.YtcopkohklgbpgabDoor
open Go.ChangeShapes Go.WideShapes Go.ChangeAt Go.RowKit
set_option linter.unusedVariables false
/-- A block that holds a table. -/
def refilled2 (zs : List Int) : Obj → Obj
  | .cells _ t frozen => .cells (zs.map (Value.int .u64)).toArray t frozen
  | o => o
/-- The four tables, as the row lays them. -/
theorem tables_of4 {W : World} (h : laidMet Tryd.prog [("coffer/cofferref01.cubes", Lib.tabData .u64 cubesL), ("coffer/cofferref01.squares", Lib.tabData .u64 rootsL), ("coffer/digest.roots", Lib.tabData .u64 rootsL), ("coffer/digest.cubes", Lib.tabData .u64 cubesL)] W) : Tables W ∧ RTab W := by
  have h1 : Lib.TabIs Tryd.prog W "coffer/cofferref01.cubes" .u64 cubesL := Lib.tabIs_of_head (g := 2) (t := 92) (e := 63) (n := 80) (by kernel_rfl) (by kernel_rfl) (by kernel_rfl) (by kernel_rfl) (by kernel_rfl) (by kernel_rfl) h
  obtain ⟨ps, ⟨g1, t1, cs1, fuel1, p1, q1, _, _, _, _, hr2, _⟩, _⟩ := h
  obtain ⟨g2, t2, cs2, fuel2, p2, q2, hg2, ht2, hvar2, hd2, hr3, _⟩ := hr2
  obtain ⟨g3, t3, cs3, fuel3, p3, q3, hg3, ht3, hvar3, hd3, hr4, _⟩ := hr3
  obtain ⟨g4, t4, cs4, fuel4, p4, q4, hg4, ht4, hvar4, hd4, _, _⟩ := hr4
  have h2 : Lib.TabIs Tryd.prog W "coffer/cofferref01.squares" .u64 rootsL := by
    have hg : Tryd.prog.globalNamed "coffer/cofferref01.squares" = some 1 := by kernel_rfl
    obtain rfl := Option.some.inj (hg.symm.trans hg2)
    have hty : (Tryd.prog.globals[1]?).map (·.type) = some 96 := by kernel_rfl
    obtain rfl := Option.some.inj (hty.symm.trans ht2)
    unfold Lib.TabIs
    rw [hvar2, ← Lib.cells_of_tab (n := 16) (e := 63) (by kernel_rfl) (by kernel_rfl) (by kernel_rfl) (by kernel_rfl) hd2]
  have h3 : Lib.TabIs Tryd.prog W "coffer/digest.roots" .u64 rootsL := by
    have hg : Tryd.prog.globalNamed "coffer/digest.roots" = some 0 := by kernel_rfl
    obtain rfl := Option.some.inj (hg.symm.trans hg3)
    have hty : (Tryd.prog.globals[0]?).map (·.type) = some 96 := by kernel_rfl
    obtain rfl := Option.some.inj (hty.symm.trans ht3)
    unfold Lib.TabIs
    rw [hvar3, ← Lib.cells_of_tab (n := 16) (e := 63) (by kernel_rfl) (by kernel_rfl) (by kernel_rfl) (by kernel_rfl) hd3]
  have h4 : Lib.TabIs Tryd.prog W "coffer/digest.cubes" .u64 cubesL := by
    have hg : Tryd.prog.globalNamed "coffer/digest.cubes" = some 3 := by kernel_rfl
    obtain rfl := Option.some.inj (hg.symm.trans hg4)
    have hty : (Tryd.prog.globals[3]?).map (·.type) = some 92 := by kernel_rfl
    obtain rfl := Option.some.inj (hty.symm.trans ht4)
    unfold Lib.TabIs
    rw [hvar4, ← Lib.cells_of_tab (n := 80) (e := 63) (by kernel_rfl) (by kernel_rfl) (by kernel_rfl) (by kernel_rfl) hd4]
  exact ⟨⟨fun t ht => h4.cell (by kernel_rfl) t (by simpa [cubesL] using ht), fun t ht => h3.cell (by kernel_rfl) t (by simpa [rootsL] using ht)⟩, ⟨fun t ht => h1.cell (by kernel_rfl) t (by simpa [cubesL] using ht), fun t ht => h2.cell (by kernel_rfl) t (by simpa [rootsL] using ht)⟩⟩

end Go.Proofs.YtcopkohklgbpgabDoor
