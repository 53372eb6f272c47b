import Derived.Test.YtkiclnmcdganaaaDoorPart04
import Derived.Deep.Cut
import Derived.Test.YtkiclnmcdganaaaDoorRows
import Derived.Test.YtkiclnmcdganaaaDoorPart00
import Derived.ProofKit
import Derived.OpenShut
import Derived.ShutString
import Derived.ChangeOld
import Derived.Below
import Derived.SizedLaws
import Derived.Lib.LaidTab
import Derived.Deep.DeepHandedRow
namespace Go.Proofs.YtkiclnmcdganaaaDoor
open Go.RowKit
set_option linter.unusedVariables false
set_option linter.unusedSimpArgs false
theorem zcTK : Tryd.zeroCells70.size = 139 := by kernel_rfl
set_option maxHeartbeats 1600000 in
set_option maxRecDepth 100000 in
/-- Stream.Reset. -/
theorem sreset (g : Nat) (h : Int) (s0 : Eight) (zs : List Int) (w : World) (k : Hid (Known h)) (hr : Hid (Rep w g 0 h (wdOf h) s0 0 zs)) (hT : Hid (Tables w)) :
    Calls Tryd.prog 32 #[.pointer (some ⟨g, 0, none⟩)] w fun e w' => e = .returned (.int .i64 0) ∧ Rep w' g 0 h (wdOf h) (firstE h) 0 [] ∧ Touch w w' g 0 139 := by
  obtain ⟨hc, HX3⟩ : w.cell? ⟨g, 0, none⟩ = some (.int .i64 h) ∧ Hid (w.there g 0 139) := by
    obtain ⟨half, hk, _, _⟩ := hr.out
    exact ⟨hk.hash, hk.there⟩
  have hg0 : g < w.heap.size := by have := World.block_lt_of_cell? w _ hc; simpa using this
  have hg : Hid (g < w.heap.size) := hg0
  clear hg0
  go_enter Tryd.func32, Tryd.ntmps32
  go_wp2_with (first | (go_at_call 44; refine (begin_any k.out w hT.out).mono ?_))
  rintro e1 w1 ⟨rfl, hb1⟩
  obtain ⟨T, HTT⟩ : ∃ T : List Value, Hid (T = tkL h (wdOf h) (firstE h) (fun _ => 0) 0) := ⟨_, rfl⟩
  rw [← HTT.out]
  have HG : Hid (TkBig T) := by show TkBig T; rw [HTT.out]; exact tkBig _ _ _ _ _
  have HB1 : Hid (Below w.heap.size w w1) := hb1
  have HX : Hid ((w1.alloc (.cells Tryd.zeroCells70 70)).there w1.heap.size 0 139) := there_new w1 Tryd.zeroCells70 70 139 (by rw [zcTK]; exact Nat.le_refl _)
  clear hb1 hc
  go_upto_region 4 with (first
    | (refine wpList_store_mid (by rfl) 70 (.tmp 3) (.tmp 14) (by rfl) w1.heap.size 0 T.toArray (by rfl) (by rfl) (by rw [HG.out.size]; exact HX.out) HG.out.info HG.out.one ?_)
    | fail)
  have HR2 : Hid (((w1.alloc (.cells Tryd.zeroCells70 70)).setCells w1.heap.size 0 T).rangeAt w1.heap.size 0 T) := World.rangeAt_setCells_same _ _ _ _ (by rw [HG.out.len]; exact HX.out)
  have HB2 : Hid (Below w.heap.size w ((w1.alloc (.cells Tryd.zeroCells70 70)).setCells w1.heap.size 0 T)) := below_setCells _ HB1.out.size _ _ _ (HB1.out.alloc HB1.out.size _)
  generalize (w1.alloc (.cells Tryd.zeroCells70 70)).setCells w1.heap.size 0 T = w2 at HR2 HB2 ⊢
  clear HX
  have HX2 : Hid (w2.there g 0 139) := fun j hj => by
    have q := HX3.out j hj
    rw [World.cell?_of_block (w := w) (HB2.out.block g hg.out), World.frozen?_of_block (w := w) (HB2.out.block g hg.out)]
    exact q
  go_wp2_with (first
    | (refine wpList_load_mid (by rfl) 70 (.tmp 3) (by rfl) w1.heap.size 0 (by rfl) T _ HR2.out Tryd.underlying70 rfl (by rw [HG.out.len]; kernel_rfl) ?_)
    | (refine wpList_store_mid (by rfl) 70 (.tmp 19) (.tmp 17) (by rfl) g 0 T.toArray (by rfl) (by rfl) (by rw [HG.out.size]; exact HX2.out) HG.out.info HG.out.one ?_)
    | fail)
  go_ret
  have hT' : T = tkL h (wdOf h) (firstE h) (fun _ => 0) 0 := HTT.out
  have hra : (w2.setCells g 0 T).rangeAt g 0 T := World.rangeAt_setCells_same _ _ _ _ (by rw [HG.out.len]; exact HX2.out)
  refine ⟨rfl, rep_nil (TK.of (half := fun _ => 0) ?_ (World.there_setCells HX2.out g 0 T)) (Nat.zero_mod _), ((Touch.refl w g 0 139).below HB2.out hg.out).setCells 0 T (Nat.le_refl _) (by rw [HG.out.len]; omega)⟩
  rw [hT'] at hra ⊢
  exact hra
/-- A list, k times. -/
def zk (Z : List Int) : Nat → List Int
  | 0 => []
  | k + 1 => zk Z k ++ Z
theorem zk_len (Z : List Int) (k : Nat) : (zk Z k).length = k * Z.length := by
  induction k with
  | zero => simp [zk]
  | succ k ih => rw [zk, List.length_append, ih, Nat.succ_mul]
theorem made_getF (n i : Nat) (hi : i < n) : ((madeCells #[Value.int .u8 0] n).toList)[i]? = some (.int .u8 0) := by
  simp [madeCells, hi, Nat.mod_one]
/-- A made slice of bytes. -/
theorem made_view (w w1 : World) (n B : Nat) (hown : w1.ownsRow B 5 1 (.slice (some ⟨w.heap.size, 0, none⟩) n n) n (madeCells (Value.int .u8 0).cells (n * 1)).toList) (hn : n ≤ 9223372036854775807) : ∃ Z : List Int, Z.length = n ∧ View w1 (.slice (some ⟨w.heap.size, 0, none⟩) n n) Z := by
  refine ⟨List.replicate n 0, by simp, _, n, by simp, by simp, by unfold maxLen; exact hn, (fun e => by cases e), .inr ⟨w.heap.size, 0, rfl, fun j hj => ?_⟩⟩
  have hj' : j < n := by simpa using hj
  have e0 : (List.replicate n (0 : Int)).getD j 0 = 0 := by simp [List.getD, hj']
  rw [Nat.zero_add, hown.cellAt j (by omega), e0, Nat.mul_one]
  exact made_getF n j hj'
def NsP (w w' : World) (e : Ending) : Prop := ∃ g, e = .returned (.tuple #[.pointer (some ⟨g, 0, none⟩), .int .i64 0]) ∧ w.heap.size ≤ g ∧ Rep w' g 0 256 (wdOf 256) (firstE 256) 0 [] ∧ Below w.heap.size w w'
def NmP (w w' : World) (e : Ending) (si so : Eight) : Prop := ∃ g, e = .returned (.tuple #[.pointer (some ⟨g, 0, none⟩), .int .i64 0]) ∧ w.heap.size ≤ g ∧ MRep w' g 256 si so [] ∧ Below w.heap.size w w'
def SuP (w w4 u w' : World) (e : Ending) (g1 g2 : Nat) (si so : Eight) (Q ans : List Int) : Prop := ∃ b, e = .returned (.slice (some ⟨b, 0, none⟩) 32 32) ∧ View w' (.slice (some ⟨b, 0, none⟩) 32 32) ans ∧ Run w w4 w' g1 g2 g1 g2 256 si so Q Q ∧ Below u.heap.size u w' ∧ u.heap.size ≤ b ∧ b < w'.heap.size
theorem k256 : Known 256 := .inr (.inl rfl)
theorem parts_none (w : World) (g : Nat) : Parts w g (.slice none 0 0) [] := ⟨none, 0, rfl, by simp, by simp [maxLen], .inl rfl⟩
theorem view_one (u : World) (x : Int) (t : TypeId) : View (u.alloc (.cells #[.int .u8 x] t)) (.slice (some ⟨u.heap.size, 0, none⟩) 1 1) [x] := ⟨_, 1, rfl, by simp, by simp [maxLen], (fun e => by cases e), .inr ⟨u.heap.size, 0, rfl, fun j hj => by
  obtain rfl : j = 0 := by simp at hj; omega
  exact rangeAt_new u #[.int .u8 x] t 0 _ rfl⟩⟩
theorem num_ok (x : Int) (w : World) : Calls Tryd.prog 11 #[.int .i64 x] w fun e w' => e = .returned (.int .i64 x) ∧ w' = w := by
  go_enter Tryd.func11, Tryd.ntmps11
  go_wp2
  go_ret
  exact ⟨rfl, rfl⟩
theorem lt_or_any {u : World} {b : Nat} {A : List Int} (v : View u (.slice (some ⟨b, 0, none⟩) 32 32) A) (h0 : A = []) : b < u.heap.size := by
  obtain ⟨a, c, e, _⟩ := v
  injection e with _ e2 _
  rw [h0] at e2
  cases e2
theorem View.blk' {w v : World} {a : Option Addr} {n c : Nat} {zs : List Int} (h : View w (.slice a n c) zs) (hb : ∀ b off, a = some ⟨b, off, none⟩ → v.heap[b]? = w.heap[b]?) : View v (.slice a n c) zs := by
  obtain ⟨a', c', e, h1, h2, h3, h4⟩ := h
  injection e with e1 e2 e3
  subst e1 e2 e3
  refine ⟨a, c, rfl, h1, h2, h3, ?_⟩
  rcases h4 with h4 | ⟨b, off, e4, hc⟩
  · exact .inl h4
  · refine .inr ⟨b, off, e4, fun i hi => ?_⟩
    rw [World.cell?_of_block (a := ⟨b, off + i, none⟩) (hb b off e4)]
    exact hc i hi
/-- What stands behind the sums. -/
structure ST (w w4 u : World) (g1 g2 ba bb : Nat) (si so : Eight) (Q A B : List Int) : Prop where
  run : Run w w4 u g1 g2 g1 g2 256 si so Q Q
  va : View u (.slice (some ⟨ba, 0, none⟩) 32 32) A
  vb : View u (.slice (some ⟨bb, 0, none⟩) 32 32) B
  la : g1 < ba ∧ g2 < ba
  lb : g1 < bb
  lc : g2 < bb
theorem ST.below {w w4 u v : World} {g1 g2 ba bb : Nat} {si so : Eight} {Q A B : List Int} (s : ST w w4 u g1 g2 ba bb si so Q A B) (b : Below u.heap.size u v) : ST w w4 v g1 g2 ba bb si so Q A B :=
  ⟨s.run.below b, s.va.kept fun q hq => b.block q hq, s.vb.kept fun q hq => b.block q hq, s.la, s.lb, s.lc⟩
theorem below_two (u : World) (o1 o2 : Obj) : Below u.heap.size u ((u.alloc o1).alloc o2) := (below_alloc1 u o1).trans ((below_alloc1 (u.alloc o1) o2).mono (by simp))
theorem st_over1 (w w4 u : World) (g1 g2 ba bb : Nat) (si so : Eight) (Q A B : List Int) (s : ST w w4 u g1 g2 ba bb si so Q A B) (hQ : Q.length = 33554432) (t : TypeId) :
    Calls Tryd.prog 24 #[.pointer (some ⟨g1, 0, none⟩), .slice (some ⟨u.heap.size + 1, 0, none⟩) 2 2] ((u.alloc (.cells #[.int .u8 1] 5)).alloc (.cells #[.slice none 0 0, .slice (some ⟨u.heap.size, 0, none⟩) 1 1] t)) fun e w' => Hid (e = .returned (.int .i64 4) ∧ ST w w4 w' g1 g2 ba bb si so Q A B) := by
  have l1 := s.run.sr.lt
  have s1 := size_alloc1 u (.cells #[.int .u8 1] 5)
  have s2 := s.below (below_two u (.cells #[.int .u8 1] 5) (.cells #[.slice none 0 0, .slice (some ⟨u.heap.size, 0, none⟩) 1 1] t))
  have q := swrite_over g1 256 (firstE 256) Q [[], [1]] _ _ s2.run.sr (parts2_alloc t (.slice none 0 0) (.slice (some ⟨u.heap.size, 0, none⟩) 1 1) [] [1] g1 (view_nil _) (view_one u 1 5) (by rw [s1]; omega) (fun h0 => absurd rfl h0) (fun _ b off l c e => by injection e with e1 _ _; injection e1 with e1; injection e1 with e2 _; omega)) (by show _ ≤ _; omega) (by show _ < _; simp; omega)
  rw [s1] at q
  refine q.mono ?_
  rintro e w' ⟨q1, rfl⟩
  exact ⟨q1, s2⟩
theorem st_over2 (w w4 u : World) (g1 g2 ba bb : Nat) (si so : Eight) (Q A B : List Int) (s : ST w w4 u g1 g2 ba bb si so Q A B) (hQ : Q.length = 33554432) (t : TypeId) :
    Calls Tryd.prog 19 #[.pointer (some ⟨g2, 0, none⟩), .slice (some ⟨u.heap.size + 1, 0, none⟩) 2 2] ((u.alloc (.cells #[.int .u8 1] 5)).alloc (.cells #[.slice (some ⟨u.heap.size, 0, none⟩) 1 1, .slice none 0 0] t)) fun e w' => Hid (e = .returned (.int .i64 4) ∧ ST w w4 w' g1 g2 ba bb si so Q A B) := by
  have l1 := s.run.mr.1.lt
  have s1 := size_alloc1 u (.cells #[.int .u8 1] 5)
  have s2 := s.below (below_two u (.cells #[.int .u8 1] 5) (.cells #[.slice (some ⟨u.heap.size, 0, none⟩) 1 1, .slice none 0 0] t))
  have q := mwrite_over g2 256 si so Q [[1], []] _ _ k256 s2.run.mr (parts2_alloc t (.slice (some ⟨u.heap.size, 0, none⟩) 1 1) (.slice none 0 0) [1] [] g2 (view_one u 1 5) (view_nil _) (by rw [s1]; omega) (fun _ b off l c e => by injection e with e1 _ _; injection e1 with e1; injection e1 with e2 _; omega) (fun h0 => absurd rfl h0)) (by show _ ≤ _; omega) (by show _ < _; simp; omega)
  rw [s1] at q
  refine q.mono ?_
  rintro e w' ⟨q1, q2⟩
  exact ⟨q1, s2.below ⟨q2.os, q2.tape, q2.output, by rw [q2.heap]; exact Nat.le_refl _, fun q hq => by rw [q2.heap]⟩⟩
theorem st_nil (w w4 u : World) (g1 g2 ba bb : Nat) (si so : Eight) (Q A B : List Int) (s : ST w w4 u g1 g2 ba bb si so Q A B) (hT : Tables w) (hQ : Q.length = 33554432) (t : TypeId) :
    Calls Tryd.prog 24 #[.pointer (some ⟨g1, 0, none⟩), .slice (some ⟨u.heap.size, 0, none⟩) 2 2] (u.alloc (.cells #[.slice none 0 0, .slice none 0 0] t)) fun e w' => Hid (e = .returned (.int .i64 0) ∧ ST w w4 w' g1 g2 ba bb si so Q A B) := by
  refine (s.run.write2 k256 hT t (.slice none 0 0) (.slice none 0 0) [] [] (view_nil _) (view_nil _) (fun h0 => absurd rfl h0) (fun h0 => absurd rfl h0) (by simp; omega)).mono ?_
  rintro e w' ⟨q1, q2, q3⟩
  have la := s.la
  have lb := s.lb
  have h1 : ba < u.heap.size := by
    by_cases h0 : A = []
    · exact (lt_or_any s.va h0)
    · exact view_lt s.va h0 ba 0 32 32 rfl
  have h2 : bb < u.heap.size := by
    by_cases h0 : B = []
    · exact (lt_or_any s.vb h0)
    · exact view_lt s.vb h0 bb 0 32 32 rfl
  refine ⟨q1, by simpa using q2, s.va.blk' (fun b off e => by injection e with e; injection e with e _; subst e; exact q3 _ h1 (by omega)), s.vb.blk' (fun b off e => by injection e with e; injection e with e _; subst e; exact q3 _ h2 (by omega)), s.la, s.lb, s.lc⟩
theorem st_none (w w4 u : World) (g1 g2 ba bb : Nat) (si so : Eight) (Q A B : List Int) (s : ST w w4 u g1 g2 ba bb si so Q A B) (hT : Tables w) (hQ : Q.length = 33554432) :
    Calls Tryd.prog 19 #[.pointer (some ⟨g2, 0, none⟩), .slice none 0 0] u fun e w' => Hid (e = .returned (.int .i64 0) ∧ ST w w4 w' g1 g2 ba bb si so Q A B) := by
  refine (mwrite g2 256 si so Q [] _ u k256 s.run.mr (parts_none u g2) (s.run.tables hT) (Nat.le_trans hT.size s.run.mB) (by show _ ≤ _; simp; omega)).mono ?_
  rintro e w' ⟨q1, q2, q3⟩
  have la := s.la
  have lc := s.lc
  have h1 : ba < u.heap.size := by
    by_cases h0 : A = []
    · exact (lt_or_any s.va h0)
    · exact view_lt s.va h0 ba 0 32 32 rfl
  have h2 : bb < u.heap.size := by
    by_cases h0 : B = []
    · exact (lt_or_any s.vb h0)
    · exact view_lt s.vb h0 bb 0 32 32 rfl
  refine ⟨q1, s.run.touchM q2 (by simpa using q3), s.va.blk' (fun b off e => by injection e with e; injection e with e _; subst e; exact q2.block _ h1 (by omega)), s.vb.blk' (fun b off e => by injection e with e; injection e with e _; subst e; exact q2.block _ h2 (by omega)), s.la, s.lb, s.lc⟩
set_option maxHeartbeats 6400000 in
set_option maxRecDepth 100000 in
/-- The law. -/
theorem full_ok (w : World) (hT : Hid (Tables w)) : Calls Tryd.prog 7 #[] w fun e w' => Hid (e = .returned (.bool true) ∧ Below w.heap.size w w') := by
  have hT4 := hT.out.size
  obtain ⟨i0, hi0, hz0, hz1, hz2⟩ := info_parts Tryd.info5
  go_enter Tryd.func7, Tryd.ntmps7
  go_upto_region 2 with (first
    | (at_make; go_must (refine wpList_make_full _ rfl _ _ 22 rfl w.heap.size 5 i0 (.int .u8 0) 1 Tryd.underlying22 hi0 hz0 hz1 .i64 .i64 1048576 1048576 1048576 rfl rfl rfl rfl ?_ ?_ ?_ ?_); rw [hz2]; decide; unfold maxLen; decide; exact Nat.le_refl _; intro w1 hown hgrow)
    | fail)
  obtain ⟨Z, hZl, hZv⟩ := made_view w w1 1048576 w.heap.size hown (by decide)
  have HB1 : Hid (Below w.heap.size w w1) := (Below.refl _ _).grown hgrow (Nat.le_refl _) (by intro k hk; cases hk)
  have HZ1 : Hid (Z.length = 1048576 ∧ View w1 (.slice (some ⟨w.heap.size, 0, none⟩) 1048576 1048576) Z ∧ w.heap.size < w1.heap.size) := ⟨hZl, hZv, (hown.lt _ rfl).2⟩
  clear hown hgrow hZl hZv
  have H22 : Hid (Calls Tryd.prog 22 #[.int .i64 256] w1 fun e w' => Hid (NsP w1 w' e)) := new_good 256 w1 k256 (hT.out.below HB1.out hT4)
  go_upto_region 3 with (go_at_call 22; refine H22.out.mono ?_; intro e2 w2 hh; obtain ⟨g1, rfl, hg1, hr2, hb2⟩ := hh.out)
  have HS2 : Hid (w1.heap.size ≤ g1 ∧ Rep w2 g1 0 256 (wdOf 256) (firstE 256) 0 [] ∧ Below w1.heap.size w1 w2) := ⟨hg1, hr2, hb2⟩
  have HB2 : Hid (Below w.heap.size w w2) := HB1.out.trans (hb2.mono HB1.out.size)
  clear hh hg1 hr2 hb2 H22
  obtain ⟨si, HSI⟩ : ∃ si, Hid (si = stateOf 256 [] 54) := ⟨_, rfl⟩
  obtain ⟨so, HSO⟩ : ∃ so, Hid (so = stateOf 256 [] 92) := ⟨_, rfl⟩
  have H18 : Hid (Calls Tryd.prog 18 #[.int .i64 256, .slice none 0 0] w2 fun e w' => Hid (NmP w2 w' e si so)) := by
    rw [HSI.out, HSO.out]
    exact newMac_any 256 (.slice none 0 0) [] w2 k256 (view_nil _) (by decide) (hT.out.below HB2.out hT4)
  clear HSI HSO
  go_upto_region 4 with (go_at_call 18; refine H18.out.mono ?_; intro e4 w4 hh; obtain ⟨g2, rfl, hg2, hm4, hb4⟩ := hh.out)
  have HR4 : Hid (Run w w4 w4 g1 g2 g1 g2 256 si so (zk Z 0) (zk Z 0)) := by
    have l2 := HS2.out.2.1.lt
    have l1 := HB1.out.size
    have l3 := HB2.out.size
    have l4 := HS2.out.1
    exact ⟨HB2.out.trans (hb4.mono HB2.out.size), Nat.le_refl _, fun _ _ _ _ => rfl, .inl rfl, .inl rfl, by omega, by omega, by omega, HS2.out.2.1.below hb4, hm4⟩
  have HV4 : Hid (View w4 (.slice (some ⟨w.heap.size, 0, none⟩) 1048576 1048576) Z ∧ w.heap.size < g1 ∧ w.heap.size < g2 ∧ w.heap.size < w4.heap.size) := by
    have l2 := HS2.out.2.1.lt
    have l4 := HS2.out.1
    have l5 := HZ1.out.2.2
    have l6 := hb4.size
    exact ⟨(HZ1.out.2.1.kept fun q hq => HS2.out.2.2.block q hq).kept fun q hq => hb4.block q hq, by omega, by omega, by omega⟩
  clear hh hg2 hm4 hb4 H18 HS2 HB2 HB1
  go_upto_region 6 with (go_at_call 11; refine (num_ok _ _).mono ?_; rintro e5 w5 ⟨rfl, hw5⟩; obtain rfl := hw5.symm)
  go_wp2
  go_loopw [6] (fun vi wr => ∃ i : Nat, i ≤ 32 ∧ vi = .int .i64 (i : Nat) ∧ Hid (Run w w4 wr g1 g2 g1 g2 256 si so (zk Z i) (zk Z i))) (fun vi _ => 32 - (intOf vi).toNat)
  case atStart => exact ⟨0, by omega, rfl, HR4.out⟩
  case round =>
    obtain ⟨i, hi, rfl, HR⟩ := hrel
    clear HR4
    by_cases hlt : i < 32
    · have hlen : Hid ((zk Z i).length + Z.length ≤ 33554432) := by show _ ≤ _; rw [zk_len, HZ1.out.1]; omega
      have HVr : Hid (View wr (.slice (some ⟨w.heap.size, 0, none⟩) 1048576 1048576) Z) := HR.out.view HV4.out.1 (fun b off l c e => by injection e with e1 _ _; injection e1 with e1; injection e1 with e2 _; have := HV4.out.2; omega)
      have H24 : Hid (∀ t, Calls Tryd.prog 24 #[.pointer (some ⟨g1, 0, none⟩), .slice (some ⟨wr.heap.size, 0, none⟩) 1 1] (wr.alloc (.cells #[.slice (some ⟨w.heap.size, 0, none⟩) 1048576 1048576] t)) fun e w' => Hid (e = .returned (.int .i64 0) ∧ Run w w4 w' g1 g2 g1 g2 256 si so (zk Z (i + 1)) (zk Z i))) := fun t => by
        refine (HR.out.write1 k256 hT.out t _ Z HVr.out (fun _ b off l c e => by injection e with e1 _ _; injection e1 with e1; injection e1 with e2 _; have := HV4.out.2; omega) hlen.out).mono ?_
        rintro e w' ⟨q1, q2, _⟩
        exact ⟨q1, q2⟩
      go_wp2_with (go_at_call 24; refine (H24.out _).mono ?_)
      intro e5 w5 hh
      obtain ⟨rfl, hr5⟩ := hh.out
      have HR5 : Hid (Run w w4 w5 g1 g2 g1 g2 256 si so (zk Z (i + 1)) (zk Z i)) := hr5
      clear hh hr5 H24 HR HVr
      have HVr : Hid (View w5 (.slice (some ⟨w.heap.size, 0, none⟩) 1048576 1048576) Z) := HR5.out.view HV4.out.1 (fun b off l c e => by injection e with e1 _ _; injection e1 with e1; injection e1 with e2 _; have := HV4.out.2; omega)
      have H19 : Hid (∀ t, Calls Tryd.prog 19 #[.pointer (some ⟨g2, 0, none⟩), .slice (some ⟨w5.heap.size, 0, none⟩) 1 1] (w5.alloc (.cells #[.slice (some ⟨w.heap.size, 0, none⟩) 1048576 1048576] t)) fun e w' => Hid (e = .returned (.int .i64 0) ∧ Run w w4 w' g1 g2 g1 g2 256 si so (zk Z (i + 1)) (zk Z (i + 1)))) := fun t => by
        refine (HR5.out.mwrite1 k256 hT.out t _ Z HVr.out (fun _ b off l c e => by injection e with e1 _ _; injection e1 with e1; injection e1 with e2 _; have := HV4.out.2; omega) hlen.out).mono ?_
        rintro e w' ⟨q1, q2, _⟩
        exact ⟨q1, q2⟩
      go_wp2_with (first | (go_at_call 11; refine (num_ok _ _).mono ?_; rintro e5 wx ⟨rfl, hwx⟩; obtain rfl := hwx.symm) | (go_at_call 19; refine (H19.out _).mono ?_))
      intro e6 w6 hh
      obtain ⟨rfl, hr6⟩ := hh.out
      have HR6 : Hid (Run w w4 w6 g1 g2 g1 g2 256 si so (zk Z (i + 1)) (zk Z (i + 1))) := hr6
      clear hh hr6 H19 HR5 HVr hlen
      go_wp2_with (go_at_call 11; refine (num_ok _ _).mono ?_; rintro e5 wx ⟨rfl, hwx⟩; obtain rfl := hwx.symm)
      go_roundw
      case rel => exact ⟨i + 1, by omega, by go_num, HR6.out⟩
      case measure => simp [intOf]; omega
    · obtain rfl : i = 32 := by omega
      obtain ⟨Q, HQ⟩ : ∃ Q, Hid (Q = zk Z 32) := ⟨_, rfl⟩
      have HQl : Hid (Q.length = 33554432) := by show _ = _; rw [HQ.out, zk_len, HZ1.out.1]
      have HRq : Hid (Run w w4 wr g1 g2 g1 g2 256 si so Q Q) := by rw [HQ.out]; exact HR.out
      clear HR HQ HZ1 HV4
      obtain ⟨A, HA⟩ : ∃ A, Hid (A = dig 256 Q) := ⟨_, rfl⟩
      obtain ⟨B, HB⟩ : ∃ B, Hid (B = macL 256 si so Q) := ⟨_, rfl⟩
      have H26 : Hid (∀ u, Run w w4 u g1 g2 g1 g2 256 si so Q Q → Calls Tryd.prog 26 #[.pointer (some ⟨g1, 0, none⟩)] u fun e w' => Hid (SuP w w4 u w' e g1 g2 si so Q A)) := fun u r => by
        refine (ssum g1 256 (firstE 256) Q u k256 r.sr (r.tables hT.out) (by show _ ≤ _; have := HQl.out; omega)).mono ?_
        rintro e w' ⟨b, q1, ho, hb⟩
        rw [HA.out]
        exact ⟨b, q1, owns_view (by rw [dig_length k256]) ho, r.below hb, hb, (owns_lt ho).1, (owns_lt ho).2⟩
      have H21 : Hid (∀ u, Run w w4 u g1 g2 g1 g2 256 si so Q Q → Calls Tryd.prog 21 #[.pointer (some ⟨g2, 0, none⟩)] u fun e w' => Hid (SuP w w4 u w' e g1 g2 si so Q B)) := fun u r => by
        refine (msum g2 256 si so Q u k256 r.mr (r.tables hT.out) (by show _ ≤ _; have := HQl.out; omega)).mono ?_
        rintro e w' ⟨b, q1, ho, hb⟩
        rw [HB.out]
        exact ⟨b, q1, owns_view (by rw [macL_length k256]) ho, r.below hb, hb, (owns_lt ho).1, (owns_lt ho).2⟩
      clear HA HB
      go_upto_region 12 with (go_at_call 26; refine (H26.out _ HRq.out).mono ?_; intro e5 w5 hh; obtain ⟨ba, rfl, hva, hr5, hb5, hl5, hm5⟩ := hh.out)
      have HA5 : Hid (View w5 (.slice (some ⟨ba, 0, none⟩) 32 32) A ∧ Run w w4 w5 g1 g2 g1 g2 256 si so Q Q ∧ g1 < ba ∧ g2 < ba) := by
        have l1 := HRq.out.sr.lt
        have l2 := HRq.out.mr.1.lt
        exact ⟨hva, hr5, by omega, by omega⟩
      clear hh hva hr5 hb5 hl5 hm5 HRq
      go_upto_region 13 with (go_at_call 21; refine (H21.out _ HA5.out.2.1).mono ?_; intro e6 w6 hh; obtain ⟨bb, rfl, hvb, hr6, hb6, hl6, hm6⟩ := hh.out)
      have HS6 : Hid (ST w w4 w6 g1 g2 ba bb si so Q A B) := by
        have l1 := HA5.out.2.1.sr.lt
        have l2 := HA5.out.2.1.mr.1.lt
        exact ⟨hr6, HA5.out.1.kept fun q hq => hb6.block q hq, hvb, HA5.out.2.2, by omega, by omega⟩
      clear hh hvb hr6 hb6 hl6 hm6 HA5
      have C1 : Hid (∀ u, ST w w4 u g1 g2 ba bb si so Q A B → ∀ t, Calls Tryd.prog 24 #[.pointer (some ⟨g1, 0, none⟩), .slice (some ⟨u.heap.size + 1, 0, none⟩) 2 2] ((u.alloc (.cells #[.int .u8 1] 5)).alloc (.cells #[.slice none 0 0, .slice (some ⟨u.heap.size, 0, none⟩) 1 1] t)) fun e w' => Hid (e = .returned (.int .i64 4) ∧ ST w w4 w' g1 g2 ba bb si so Q A B)) := fun u s t => st_over1 w w4 u g1 g2 ba bb si so Q A B s HQl.out t
      have C2 : Hid (∀ u, ST w w4 u g1 g2 ba bb si so Q A B → ∀ t, Calls Tryd.prog 19 #[.pointer (some ⟨g2, 0, none⟩), .slice (some ⟨u.heap.size + 1, 0, none⟩) 2 2] ((u.alloc (.cells #[.int .u8 1] 5)).alloc (.cells #[.slice (some ⟨u.heap.size, 0, none⟩) 1 1, .slice none 0 0] t)) fun e w' => Hid (e = .returned (.int .i64 4) ∧ ST w w4 w' g1 g2 ba bb si so Q A B)) := fun u s t => st_over2 w w4 u g1 g2 ba bb si so Q A B s HQl.out t
      have C3 : Hid (∀ u, ST w w4 u g1 g2 ba bb si so Q A B → ∀ t, Calls Tryd.prog 24 #[.pointer (some ⟨g1, 0, none⟩), .slice (some ⟨u.heap.size, 0, none⟩) 2 2] (u.alloc (.cells #[.slice none 0 0, .slice none 0 0] t)) fun e w' => Hid (e = .returned (.int .i64 0) ∧ ST w w4 w' g1 g2 ba bb si so Q A B)) := fun u s t => st_nil w w4 u g1 g2 ba bb si so Q A B s hT.out HQl.out t
      have C4 : Hid (∀ u, ST w w4 u g1 g2 ba bb si so Q A B → Calls Tryd.prog 19 #[.pointer (some ⟨g2, 0, none⟩), .slice none 0 0] u fun e w' => Hid (e = .returned (.int .i64 0) ∧ ST w w4 w' g1 g2 ba bb si so Q A B)) := fun u s => st_none w w4 u g1 g2 ba bb si so Q A B s hT.out HQl.out
      go_wp2_with (go_at_call 24; refine (C1.out w6 HS6.out _).mono ?_)
      intro e7 w7 hh
      obtain ⟨rfl, hs7⟩ := hh.out
      have HS7 : Hid (ST w w4 w7 g1 g2 ba bb si so Q A B) := hs7
      clear hh hs7 HS6 C1
      go_wp2_with (first | (go_at_call 11; refine (num_ok _ _).mono ?_; rintro e5 wx ⟨rfl, hwx⟩; obtain rfl := hwx.symm) | (go_at_call 19; refine (C2.out w7 HS7.out _).mono ?_))
      intro e8 w8 hh
      obtain ⟨rfl, hs8⟩ := hh.out
      have HS8 : Hid (ST w w4 w8 g1 g2 ba bb si so Q A B) := hs8
      clear hh hs8 HS7 C2
      go_wp2_with (first | (go_at_call 11; refine (num_ok _ _).mono ?_; rintro e5 wx ⟨rfl, hwx⟩; obtain rfl := hwx.symm) | (go_at_call 24; refine (C3.out w8 HS8.out _).mono ?_))
      intro e9 w9 hh
      obtain ⟨rfl, hs9⟩ := hh.out
      have HS9 : Hid (ST w w4 w9 g1 g2 ba bb si so Q A B) := hs9
      clear hh hs9 HS8 C3
      go_wp2_with (first | (go_at_call 11; refine (num_ok _ _).mono ?_; rintro e5 wx ⟨rfl, hwx⟩; obtain rfl := hwx.symm) | (go_at_call 19; refine (C4.out w9 HS9.out).mono ?_))
      intro e10 w10 hh
      obtain ⟨rfl, hs10⟩ := hh.out
      have HS10 : Hid (ST w w4 w10 g1 g2 ba bb si so Q A B) := hs10
      clear hh hs10 HS9 C4
      have HCN : Hid (Calls Tryd.prog 27 #[.pointer (some ⟨g1, 0, none⟩)] w10 fun e w' => e = .returned (.int .u64 (33554432 : Nat)) ∧ w' = w10) := scount g1 33554432 w10 (by
        obtain ⟨half, hk, _⟩ := HS10.out.run.sr
        have q := hk.fed
        rw [HQl.out] at q
        simpa using q)
      go_wp2_with (first | (go_at_call 11; refine (num_ok _ _).mono ?_; rintro e5 wx ⟨rfl, hwx⟩; obtain rfl := hwx.symm) | (go_at_call 27; refine HCN.out.mono ?_; rintro e5 wx ⟨rfl, hwx⟩; obtain rfl := hwx.symm) | (go_at_call 26; refine (H26.out _ HS10.out.run).mono ?_))
      intro e11 w11 hh
      obtain ⟨bc, rfl, hvc, hr11, hb11, _, _⟩ := hh.out
      have HS11 : Hid (ST w w4 w11 g1 g2 ba bb si so Q A B) := HS10.out.below hb11
      have HSM : Hid (Calls Tryd.prog 12 #[.slice (some ⟨bc, 0, none⟩) 32 32, .slice (some ⟨ba, 0, none⟩) 32 32] w11 fun e w' => Hid (e = .returned (.bool true) ∧ ST w w4 w' g1 g2 ba bb si so Q A B)) := by
        refine (same_yes _ _ A w11 hvc HS11.out.va).mono ?_
        rintro e w' ⟨q1, q2⟩
        exact ⟨q1, HS11.out.below ⟨q2.os, q2.tape, q2.output, by rw [q2.heap]; exact Nat.le_refl _, fun q hq => by rw [q2.heap]⟩⟩
      clear hh hvc hr11 hb11 HS10 HCN
      go_wp2_with (go_at_call 12; refine HSM.out.mono ?_)
      intro e12 w12 hh
      obtain ⟨rfl, hs12⟩ := hh.out
      have HS12 : Hid (ST w w4 w12 g1 g2 ba bb si so Q A B) := hs12
      clear hh hs12 HS11 HSM
      go_wp2_with (go_at_call 21; refine (H21.out _ HS12.out.run).mono ?_)
      intro e13 w13 hh
      obtain ⟨bd, rfl, hvd, hr13, hb13, _, _⟩ := hh.out
      have HS13 : Hid (ST w w4 w13 g1 g2 ba bb si so Q A B) := HS12.out.below hb13
      have HSM : Hid (Calls Tryd.prog 12 #[.slice (some ⟨bd, 0, none⟩) 32 32, .slice (some ⟨bb, 0, none⟩) 32 32] w13 fun e w' => Hid (e = .returned (.bool true) ∧ ST w w4 w' g1 g2 ba bb si so Q A B)) := by
        refine (same_yes _ _ B w13 hvd HS13.out.vb).mono ?_
        rintro e w' ⟨q1, q2⟩
        exact ⟨q1, HS13.out.below ⟨q2.os, q2.tape, q2.output, by rw [q2.heap]; exact Nat.le_refl _, fun q hq => by rw [q2.heap]⟩⟩
      clear hh hvd hr13 hb13 HS12
      go_wp2_with (go_at_call 12; refine HSM.out.mono ?_)
      intro e14 w14 hh
      obtain ⟨rfl, hs14⟩ := hh.out
      have HS14 : Hid (ST w w4 w14 g1 g2 ba bb si so Q A B) := hs14
      clear hh hs14 HS13 HSM H26 H21
      have HB14 : Hid (Tables w14 ∧ Below w.heap.size w w14 ∧ w.heap.size ≤ g1) := ⟨HS14.out.run.tables hT.out, HS14.out.run.bel, HS14.out.run.sB⟩
      have HRS : Hid (Calls Tryd.prog 32 #[.pointer (some ⟨g1, 0, none⟩)] w14 fun e w' => Hid (e = .returned (.int .i64 0) ∧ Rep w' g1 0 256 (wdOf 256) (firstE 256) 0 [] ∧ Touch w14 w' g1 0 139)) := sreset g1 256 (firstE 256) Q w14 k256 HS14.out.run.sr HB14.out.1
      go_wp2_with (go_at_call 32; refine HRS.out.mono ?_)
      intro e15 w15 hh
      obtain ⟨rfl, hr15, ht15⟩ := hh.out
      have HB15 : Hid (Rep w15 g1 0 256 (wdOf 256) (firstE 256) 0 [] ∧ Tables w15 ∧ Below w.heap.size w w15 ∧ w.heap.size ≤ g1) := by
        have hb := HB14.out.2.1.trans (ht15.toBelow HB14.out.2.2 HB14.out.2.1.size)
        exact ⟨hr15, hT.out.below hb hT4, hb, HB14.out.2.2⟩
      clear hh hr15 ht15 HRS HS14 HB14
      have HWR : Hid (∀ t, Calls Tryd.prog 24 #[.pointer (some ⟨g1, 0, none⟩), .slice (some ⟨w15.heap.size + 1, 0, none⟩) 1 1] ((w15.alloc (.cells #[.int .u8 1] 5)).alloc (.cells #[.slice (some ⟨w15.heap.size, 0, none⟩) 1 1] t)) fun e w' => Hid (e = .returned (.int .i64 0) ∧ w'.cell? ⟨g1, 0 + 138, none⟩ = some (.int .u64 (1 : Nat)) ∧ Below w.heap.size w w')) := fun t => by
        have l1 := HB15.out.1.lt
        have b1 := below_alloc1 w15 (.cells #[.int .u8 1] 5)
        have s1 := size_alloc1 w15 (.cells #[.int .u8 1] 5)
        have b2 := below_alloc1 (w15.alloc (.cells #[.int .u8 1] 5)) (.cells #[.slice (some ⟨w15.heap.size, 0, none⟩) 1 1] t)
        have hb := (HB15.out.2.2.1.trans (b1.mono HB15.out.2.2.1.size)).trans (b2.mono (Nat.le_trans HB15.out.2.2.1.size b1.size))
        have q := swrite g1 256 (firstE 256) [] [[1]] _ _ k256 ((HB15.out.1.below b1).below b2) (parts1_alloc t (.slice (some ⟨w15.heap.size, 0, none⟩) 1 1) [1] g1 (view_one w15 1 5) (by rw [s1]; omega) (fun _ b off l c e => by injection e with e1 _ _; injection e1 with e1; injection e1 with e2 _; omega)) (hT.out.below hb hT4) (Nat.le_trans hT4 HB15.out.2.2.2) (by show _ ≤ _; simp)
        rw [s1] at q
        refine q.mono ?_
        rintro e w' ⟨q1, q2, q3⟩
        refine ⟨q1, ?_, hb.trans (q2.toBelow HB15.out.2.2.2 hb.size)⟩
        obtain ⟨half, hk, _⟩ := q3
        simpa using hk.fed
      go_wp2_with (first | (go_at_call 11; refine (num_ok _ _).mono ?_; rintro e5 wx ⟨rfl, hwx⟩; obtain rfl := hwx.symm) | (go_at_call 24; refine (HWR.out _).mono ?_))
      intro e16 w16 hh
      obtain ⟨rfl, hc16, hb16⟩ := hh.out
      have HB16 : Hid (Below w.heap.size w w16) := hb16
      have HCN : Hid (Calls Tryd.prog 27 #[.pointer (some ⟨g1, 0, none⟩)] w16 fun e w' => e = .returned (.int .u64 (1 : Nat)) ∧ w' = w16) := scount g1 1 w16 hc16
      clear hh hc16 hb16 HWR HB15
      go_wp2_with (first | (go_at_call 11; refine (num_ok _ _).mono ?_; rintro e5 wx ⟨rfl, hwx⟩; obtain rfl := hwx.symm) | (go_at_call 27; refine HCN.out.mono ?_; rintro e5 wx ⟨rfl, hwx⟩; obtain rfl := hwx.symm))
      go_ret
      exact ⟨rfl, HB16.out⟩
end Go.Proofs.YtkiclnmcdganaaaDoor
namespace Go.Proofs.YtkiclnmcdganaaaDoor
open Go.ChangeShapes Go.WideShapes Go.ChangeAt Go.RowKit

theorem own : ownKnob Tryd.prog.godebug = none := by kernel_rfl
theorem laidOut : laidOutB Tryd.prog = true := by kernel_rfl
theorem cells5 : Tryd.prog.cellsOf 5 = 1 := by kernel_rfl
theorem bytes5 : Tryd.prog.bytesOf 5 = 1 := by kernel_rfl

/-- What came in as a list of bytes. -/
theorem open_bytes {H : Type} {enc : TypeId × Value → H} {W : World} {a : Option Addr} {len cap : Nat} {d : DataW H} {p : List MemPlace}
    (h : DataW.Trod enc Tryd.prog W 0 (fun _ => true) true 22 (.slice a len cap) d p) :
    ∃ xs : List Int, xs.length = len ∧ AllBytes xs ∧ View W (.slice a len cap) xs ∧ (d = .nil ∧ xs = [] ∨ ∃ sp, d = .slice (lits .u8 xs) sp) := by
  obtain ⟨fuel, hf⟩ := h
  rcases open_ints Tryd.underlying22 Tryd.underlying5 cells5 hf with ⟨hcs, hx⟩ | ⟨x, l, c, zs, hcs, _, hl, hm, hz, hx, hcell, hwz⟩
  · simp [Value.cells] at hcs
    obtain ⟨rfl, rfl, rfl⟩ := hcs
    simp only [Prod.mk.injEq] at hx
    refine ⟨[], rfl, fun i => by simp, ⟨none, 0, rfl, Nat.le_refl _, by simp, fun _ => rfl, .inl rfl⟩, .inl ⟨hx.1, rfl⟩⟩
  · simp [Value.cells] at hcs
    obtain ⟨rfl, rfl, rfl⟩ := hcs
    simp only [Prod.mk.injEq] at hx
    have hzl : zs.length = cap := by simpa using hz
    have hlen : (zs.take len).length = len := by simp; omega
    have hw : ∀ n ∈ zs, 0 ≤ n ∧ n < 256 := by
      intro n hn
      have := hwz n hn
      have h1 : IntKind.u8.min = 0 := rfl
      have h2 : IntKind.u8.max = 255 := rfl
      simp only [Lit.wf, Bool.and_eq_true, decide_eq_true_eq] at this
      omega
    refine ⟨zs.take len, hlen, ?_, ⟨some x, cap, by rw [hlen], by omega, hm, (fun h => by cases h), ?_⟩, .inr ⟨_, hx.1⟩⟩
    · intro i
      rw [List.getD_eq_getElem?_getD]
      cases hg : (zs.take len)[i]? with
      | none => simp
      | some n =>
        have hn : n ∈ zs := List.mem_of_mem_take (List.mem_of_getElem? hg)
        simpa using hw n hn
    · by_cases h0 : len = 0
      · left
        subst h0
        simp
      · right
        obtain ⟨b, off, spot⟩ := x
        have hc0 := hcell 0 (by omega)
        have hspot : spot = none := by simpa [Addr.add] using World.cell?_spot hc0
        subst hspot
        refine ⟨b, off, rfl, fun i hi => ?_⟩
        rw [hlen] at hi
        have := hcell i (by omega)
        rw [Addr.add_lit] at this
        rw [this]
        congr 2
        simp [List.getD_eq_getElem?_getD, hi]

/-- The reach of it. -/
theorem reach_bytes {H : Type} {ts : List TypeId} {ds : List (DataW H)} (hsz : (DataW.weightsEach Tryd.prog ts ds).all (· ≤ reachBytes) = true) {j : Nat} {d : DataW H} {xs : List Int}
    (ht : ts[j]? = some 22) (hd : ds[j]? = some d) (h : d = .nil ∧ xs = [] ∨ ∃ sp, d = .slice (lits .u8 xs) sp) : xs.length ≤ 140737488351232 := by
  rcases h with ⟨_, rfl⟩ | ⟨sp, rfl⟩
  · simp
  · have := sized_slice hsz (j := j) (t := 22) (e := 5) ht hd Tryd.underlying22
    rw [bytes5] at this
    simp only [lits, List.length_map, reachBytes] at this
    omega
end Go.Proofs.YtkiclnmcdganaaaDoor
namespace Go.Proofs.YtkiclnmcdganaaaDoor
open Go.ChangeShapes Go.WideShapes Go.ChangeAt Go.RowKit
set_option linter.unusedVariables false

theorem cells3 : Tryd.prog.cellsOf 3 = 1 := by kernel_rfl
theorem cells22 : Tryd.prog.cellsOf 22 = 1 := by kernel_rfl
theorem cells34 : Tryd.prog.cellsOf 34 = 1 := by kernel_rfl
theorem cells36 : Tryd.prog.cellsOf 36 = 5 := by kernel_rfl
theorem array5 {α : Type} {cs : Array α} (h : cs.size = 5) : ∃ c0 c1 c2 c3 c4, cs = #[c0, c1, c2, c3, c4] := by
  obtain ⟨l⟩ := cs
  match l, h with
  | [c0, c1, c2, c3, c4], _ => exact ⟨c0, c1, c2, c3, c4, rfl⟩
set_option maxRecDepth 100000 in
/-- An int's cell. -/
theorem cell_int {H : Type} {enc : TypeId × Value → H} {W : World} {n : Nat} {c : Value} {y : DataW H × List MemPlace} (h : DataW.trod enc Tryd.prog W 0 (fun _ => true) true n 3 [c] = some y) : ∃ z, c = .int .i64 z := by
  obtain ⟨z, hz, _⟩ := DataW.trod_int Tryd.underlying3 h
  exact ⟨z, by simpa using hz⟩
theorem cell_bytes {H : Type} {enc : TypeId × Value → H} {W : World} {n : Nat} {c : Value} {y : DataW H × List MemPlace} (h : DataW.trod enc Tryd.prog W 0 (fun _ => true) true n 22 [c] = some y) : ∃ a l cap xs, c = .slice a l cap ∧ View W (.slice a l cap) xs := by
  have hc : ∃ a l cap, c = .slice a l cap := by
    rcases open_ints Tryd.underlying22 Tryd.underlying5 cells5 h with ⟨hcs, _⟩ | ⟨a, l, cap, zs, hcs, _⟩
    · exact ⟨none, 0, 0, by simpa using hcs⟩
    · exact ⟨some a, l, cap, by simpa using hcs⟩
  obtain ⟨a, l, cap, rfl⟩ := hc
  obtain ⟨xs, _, _, hv, _⟩ := open_bytes (enc := enc) (W := W) (a := a) (len := l) (cap := cap) (d := y.1) (p := y.2) ⟨n, by simpa [Value.cells] using h⟩
  exact ⟨a, l, cap, xs, rfl, hv⟩
theorem cell_cuts {H : Type} {enc : TypeId × Value → H} {W : World} {n : Nat} {c : Value} {y : DataW H × List MemPlace} (h : DataW.trod enc Tryd.prog W 0 (fun _ => true) true n 34 [c] = some y) :
    ∃ a l cap, ∃ cz : Nat → Int, c = .slice a l cap ∧ l ≤ cap ∧ cap ≤ maxLen ∧ ∀ i, i < l → ∃ b p, a = some ⟨b, p, none⟩ ∧ W.cell? ⟨b, p + i, none⟩ = some (.int .i64 (cz i)) := by
  rcases open_ints Tryd.underlying34 Tryd.underlying3 cells3 h with ⟨hcs, _⟩ | ⟨x, l, cap, zs, hcs, _, hl, hm, hz, _, hcell, _⟩
  · exact ⟨none, 0, 0, fun _ => 0, by simpa using hcs, Nat.le_refl _, by simp, fun i hi => by omega⟩
  · have hzl : zs.length = cap := by simpa using hz
    refine ⟨some x, l, cap, fun i => zs.getD i 0, by simpa using hcs, hl, hm, fun i hi => ?_⟩
    obtain ⟨b, off, spot⟩ := x
    have hc0 := hcell i (by omega)
    have hspot : spot = none := by
      have h0 := hcell 0 (by omega)
      simpa [Addr.add] using World.cell?_spot h0
    subst hspot
    rw [Addr.add_lit] at hc0
    exact ⟨b, off, rfl, hc0⟩
set_option maxRecDepth 100000 in
/-- A Feeding that came in. -/
theorem open_feeding {H : Type} {enc : TypeId × Value → H} {W : World} {r : Reach} {b0 : Nat} {v : Value} {d : DataW H} {p : List MemPlace} (hv : Value.okWide Tryd.prog W r b0 36 v) (h : DataW.Trod enc Tryd.prog W 0 (fun _ => true) true 36 v d p) :
    ∃ (hh z : Int) (ka ba ca : Option Addr) (kn kc bn bc cn cc : Nat) (key bs : List Int) (cz : Nat → Int), v = .agg #[.int .i64 hh, .slice ka kn kc, .slice ba bn bc, .slice ca cn cc, .int .i64 z] ∧ View W (.slice ka kn kc) key ∧ View W (.slice ba bn bc) bs ∧
      (∀ i, i < cn → ∃ b p, ca = some ⟨b, p, none⟩ ∧ W.cell? ⟨b, p + i, none⟩ = some (.int .i64 (cz i))) ∧ cn ≤ cc ∧ cc ≤ maxLen := by
  obtain ⟨cs, rfl, hsz⟩ := okWide_struct Tryd.underlying36 hv
  obtain ⟨c0, c1, c2, c3, c4, rfl⟩ := array5 (hsz.trans cells36)
  obtain ⟨fuel, hf⟩ := h
  obtain ⟨xs, n, _, hx, _, hlen, hfs⟩ := DataW.trod_struct Tryd.underlying36 hf
  match xs, hlen with
  | [y0, y1, y2, y3, y4], _ =>
    have h0 := hfs 0 _ rfl
    have h1 := hfs 1 _ rfl
    have h2 := hfs 2 _ rfl
    have h3 := hfs 3 _ rfl
    have h4 := hfs 4 _ rfl
    simp [Value.cells, cells3, cells22, cells34] at h0 h1 h2 h3 h4
    obtain ⟨hh, rfl⟩ := cell_int h0
    obtain ⟨z, rfl⟩ := cell_int h4
    obtain ⟨ka, kn, kc, key, rfl, hk⟩ := cell_bytes h1
    obtain ⟨ba, bn, bc, bs, rfl, hb⟩ := cell_bytes h2
    obtain ⟨ca, cn, cc, cz, rfl, q1, q2, q3⟩ := cell_cuts h3
    exact ⟨hh, z, ka, ba, ca, kn, kc, bn, bc, cn, cc, key, bs, cz, rfl, hk, hb, q3, q1, q2⟩
/-- The tables, as the row lays them. -/
theorem tables_of {W : World} (h : laidMet Tryd.prog [("coffer/digest.roots", Lib.tabData .u64 rootsL), ("coffer/digest.cubes", Lib.tabData .u64 cubesL)] W) : Tables W := by
  have hr : Lib.TabIs Tryd.prog W "coffer/digest.roots" .u64 rootsL := Lib.tabIs_of_head (g := 2) (t := 94) (e := 52) (n := 16) (by kernel_rfl) (by kernel_rfl) (by kernel_rfl) (by kernel_rfl) (by kernel_rfl) (by kernel_rfl) h
  have hc : Lib.TabIs Tryd.prog W "coffer/digest.cubes" .u64 cubesL := by
    obtain ⟨ps, ⟨g1, t1, cs1, fuel1, p1, q1, _, _, _, _, hrest, _⟩, _⟩ := h
    obtain ⟨g', t', cs, fuel, p, q, hg', ht', hvar, hd, _, _⟩ := hrest
    have hg : Tryd.prog.globalNamed "coffer/digest.cubes" = some 3 := by kernel_rfl
    obtain rfl := Option.some.inj (hg.symm.trans hg')
    have hty : (Tryd.prog.globals[3]?).map (·.type) = some 97 := by kernel_rfl
    obtain rfl := Option.some.inj (hty.symm.trans ht')
    unfold Lib.TabIs
    rw [hvar, ← Lib.cells_of_tab (n := 80) (e := 52) (by kernel_rfl) (by kernel_rfl) (by kernel_rfl) (by kernel_rfl) hd]
  exact ⟨fun t ht => hc.cell (by kernel_rfl) t (by simpa [cubesL] using ht), fun t ht => hr.cell (by kernel_rfl) t (by simpa [rootsL] using ht)⟩
end Go.Proofs.YtkiclnmcdganaaaDoor
