import Derived.Test.YtidkdifldlfhoaaSgg
import Derived.Test.YtidkdifldlfhoaaRma
import Derived.WalkSmall
namespace Go.Proofs.Ytidkdifldlfhoaa
open Go.RowKit
set_option linter.unusedVariables false
set_option linter.unusedSimpArgs false
theorem spoil_any {b : Nat} {v : Value} {L : List Sg} (w : World) (hL : L.length ≤ 1000) (hb : b ≤ w.heap.size) (h : SegO w b v L) :
    Calls Try.prog 9 #[.agg (metaC v)] w fun e w' => e = .returned (.tuple #[]) ∧ w.grownBy w' v.ownBlock := by
  rcases h.own.2 with ⟨rfl, _⟩ | ⟨g, cap, cur, rfl, h1, h2, h3⟩
  · exact spoil_nil w
  · exact spoil_some b g _ cap _ w hL hb (Array.getElem?_eq_some_iff.1 h2).1 h.own
theorem SegO.kept {u u' : World} {b : Nat} {v : Value} {L : List Sg} {row : Option Nat} (h : SegO u b v L) (g : u.grownBy u' row) (hn : v.ownBlock = none ∨ v.ownBlock ≠ row) : SegO u' b v L := ⟨h.own.kept g hn, h.nil⟩
theorem own_lt {u : World} {b : Nat} {v : Value} {L : List Sg} (h : SegO u b v L) {g : Nat} (e : v.ownBlock = some g) : b ≤ g ∧ g < u.heap.size := by
  rcases h.own.2 with ⟨rfl, _⟩ | ⟨g', cap, cur, rfl, h1, h2, h3⟩
  · cases e
  · cases e
    exact ⟨h1, (Array.getElem?_eq_some_iff.1 h2).1⟩
theorem SegO.below {u u' : World} {b : Nat} {v : Value} {L : List Sg} (h : SegO u b v L) (hb : Below u.heap.size u u') : SegO u' b v L := by
  refine ⟨⟨h.own.1, ?_⟩, h.nil⟩
  rcases h.own.2 with hn | ⟨g, cap, cur, e, h1, h2, h3⟩
  · exact .inl hn
  · exact .inr ⟨g, cap, cur, e, h1, (hb.block g (Array.getElem?_eq_some_iff.1 h2).1).trans h2, h3⟩
theorem SegO.drew {u : World} {b : Nat} {v : Value} {L : List Sg} (h : SegO u b v L) (m : Nat) : SegO (u.drewN m) b v L := by
  refine ⟨⟨h.own.1, ?_⟩, h.nil⟩
  rcases h.own.2 with hn | ⟨g, cap, cur, e, h1, h2, h3⟩
  · exact .inl hn
  · exact .inr ⟨g, cap, cur, e, h1, by simpa using h2, h3⟩
/-- A Rotation's block. -/
def RotB (u : World) (m : Nat) (r : Rot) : Prop := u.heap[m]? = some (.cells (rotC r) 26 (0, 0))
theorem RotB.below {u u' : World} {m : Nat} {r : Rot} (h : RotB u m r) (hb : Below u.heap.size u u') : RotB u' m r := (hb.block m (Array.getElem?_eq_some_iff.1 h).1).trans h
theorem RotB.cell {u : World} {m : Nat} {r : Rot} (h : RotB u m r) (j : Nat) (x : Value) (hx : (rotC r)[j]? = some x) : u.cell? ⟨m, j, none⟩ = some x := by
  simp only [World.cell?]
  rw [show u.heap[m]? = _ from h]
  exact hx
theorem segL_len (n : Nat) (r : Rot) : (segL n r).length ≤ 1000 := by
  unfold segL
  split
  · exact Nat.le_trans (List.length_filter_le _ _) (by simp)
  · simp
abbrev rot1 : Rot := { on := true, fr := 0, to := 1, back := false, mode := 0, hot := 0, done := 2, ao := 0, az := 0, act := false, cnt := 0, sum := ⟨#[]⟩ }
set_option maxRecDepth 100000 in
set_option maxHeartbeats 400000 in
theorem law_ok (n : Nat) (r : Rot) (w : World) : Calls Try.prog 3 #[.int .u64 (n : Nat), .agg (rotC r)] w fun e w' => e = .returned (.bool true) ∧ Below w.heap.size w w' := by
  obtain ⟨L, HL⟩ : ∃ L, Hid (L = segL n r) := ⟨_, rfl⟩
  obtain ⟨E, HE⟩ : ∃ E, Hid (E = segE n r) := ⟨_, rfl⟩
  obtain ⟨M, HM⟩ : ∃ M, Hid (M = segL 5 rot1) := ⟨_, rfl⟩
  have HP : Hid (∀ u, Calls Try.prog 5 #[.int .u64 (n : Nat), .agg (rotC r)] u (SegP u L E)) := by rw [HL.out, HE.out]; exact fun u => pseg_ok n r u
  have HR : Hid (∀ u, Calls Try.prog 6 #[.int .u64 (n : Nat), .agg (rotC r)] u (SegP u L E)) := by rw [HL.out, HE.out]; exact fun u => rseg_ok n r u
  have HP5 : Hid (∀ u, Calls Try.prog 5 #[.int .u64 5, .agg #[.bool true, .int .u64 0, .int .u64 1, .bool false, .int .i64 0, .int .u64 0, .int .u64 2, .int .i64 0, .int .i64 0, .bool false, .int .u64 0, .string ⟨#[]⟩]] u (SegP u M 0)) := by rw [HM.out]; exact fun u => pseg_ok 5 rot1 u
  have HR5 : Hid (∀ u, Calls Try.prog 6 #[.int .u64 5, .agg #[.bool true, .int .u64 0, .int .u64 1, .bool false, .int .i64 0, .int .u64 0, .int .u64 2, .int .i64 0, .int .i64 0, .bool false, .int .u64 0, .string ⟨#[]⟩]] u (SegP u M 0)) := by rw [HM.out]; exact fun u => rseg_ok 5 rot1 u
  have HLl : Hid (L.length ≤ 1000) := by rw [HL.out]; exact segL_len n r
  have HMl : Hid (M.length ≤ 1000) := by rw [HM.out]; exact segL_len 5 rot1
  clear HL HE HM
  have HB0 : Hid (RotB (w.alloc (.cells (rotC r) 26)) w.heap.size r ∧ Below w.heap.size w (w.alloc (.cells (rotC r) 26))) := ⟨World.alloc_heap_new w _, (Below.refl _ w).alloc (Nat.le_refl _) _⟩
  go_enter Try.func3, Try.ntmps3
  go_upto_region 1 with fail
  generalize w.alloc (.cells (rotC r) 26) = u0 at HB0 ⊢
  have c0 := HB0.out.1.cell 0 _ rfl
  have c1 := HB0.out.1.cell 1 _ rfl
  have c2 := HB0.out.1.cell 2 _ rfl
  have c3 := HB0.out.1.cell 3 _ rfl
  have c4 := HB0.out.1.cell 4 _ rfl
  have c5 := HB0.out.1.cell 5 _ rfl
  have c6 := HB0.out.1.cell 6 _ rfl
  have c7 := HB0.out.1.cell 7 _ rfl
  have c8 := HB0.out.1.cell 8 _ rfl
  have c9 := HB0.out.1.cell 9 _ rfl
  have c10 := HB0.out.1.cell 10 _ rfl
  have c11 := HB0.out.1.cell 11 _ rfl
  go_upto_region 2 with (go_at_call 5; refine (HP.out _).mono ?_; intro e1 u1 hq1; obtain ⟨va, rfl, own1, nil1, b1⟩ := hq1)
  clear c0 c1 c2 c3 c4 c5 c6 c7 c8 c9 c10 c11
  have HS1 : Hid (RotB u1 w.heap.size r ∧ Below w.heap.size w u1 ∧ (∀ g, va.ownBlock = some g → g < u1.heap.size) ∧ SegO u1 w.heap.size va L) := by
    obtain ⟨a1, a2⟩ := HB0.out
    have s1 : SegO u1 u0.heap.size va L := ⟨own1, nil1⟩
    exact ⟨a1.below b1, a2.trans (b1.mono a2.size), fun g e => (own_lt s1 e).2, ⟨ownsRow_mono own1 a2.size, nil1⟩⟩
  clear HB0 own1 nil1 b1
  go_upto_region 3 with (go_at_call 5; refine (HP5.out _).mono ?_; intro e2 u2 hq2; obtain ⟨vx, rfl, own2, nil2, b2⟩ := hq2)
  have HS2 : Hid (RotB u2 w.heap.size r ∧ Below w.heap.size w u2 ∧ u1.heap.size ≤ u2.heap.size ∧ (∀ g, va.ownBlock = some g → g < u1.heap.size) ∧ SegO u2 w.heap.size va L ∧ SegO u2 u1.heap.size vx M) := by
    obtain ⟨a1, a2, a4, s0⟩ := HS1.out
    exact ⟨a1.below b2, a2.trans (b2.mono a2.size), Nat.le_trans (Nat.le_refl _) b2.size, a4, s0.below b2, ⟨ownsRow_mono own2 (Nat.le_refl _), nil2⟩⟩
  clear HS1 own2 nil2 b2
  have c0 := HS2.out.1.cell 0 _ rfl
  have c1 := HS2.out.1.cell 1 _ rfl
  have c2 := HS2.out.1.cell 2 _ rfl
  have c3 := HS2.out.1.cell 3 _ rfl
  have c4 := HS2.out.1.cell 4 _ rfl
  have c5 := HS2.out.1.cell 5 _ rfl
  have c6 := HS2.out.1.cell 6 _ rfl
  have c7 := HS2.out.1.cell 7 _ rfl
  have c8 := HS2.out.1.cell 8 _ rfl
  have c9 := HS2.out.1.cell 9 _ rfl
  have c10 := HS2.out.1.cell 10 _ rfl
  have c11 := HS2.out.1.cell 11 _ rfl
  go_upto_region 4 with (go_at_call 5; refine (HP.out _).mono ?_; intro e3 u3 hq3; obtain ⟨vb, rfl, own3, nil3, b3⟩ := hq3)
  clear c0 c1 c2 c3 c4 c5 c6 c7 c8 c9 c10 c11
  have HS3 : Hid (RotB u3 w.heap.size r ∧ Below w.heap.size w u3 ∧ u1.heap.size ≤ u3.heap.size ∧ (∀ g, va.ownBlock = some g → g < u1.heap.size) ∧ SegO u3 w.heap.size va L ∧ SegO u3 u1.heap.size vx M ∧ SegO u3 u1.heap.size vb L) := by
    obtain ⟨a1, a2, a3, a4, s0, s1⟩ := HS2.out
    exact ⟨a1.below b3, a2.trans (b3.mono a2.size), Nat.le_trans (a3) b3.size, a4, s0.below b3, s1.below b3, ⟨ownsRow_mono own3 (a3), nil3⟩⟩
  clear HS2 own3 nil3 b3
  have c0 := HS3.out.1.cell 0 _ rfl
  have c1 := HS3.out.1.cell 1 _ rfl
  have c2 := HS3.out.1.cell 2 _ rfl
  have c3 := HS3.out.1.cell 3 _ rfl
  have c4 := HS3.out.1.cell 4 _ rfl
  have c5 := HS3.out.1.cell 5 _ rfl
  have c6 := HS3.out.1.cell 6 _ rfl
  have c7 := HS3.out.1.cell 7 _ rfl
  have c8 := HS3.out.1.cell 8 _ rfl
  have c9 := HS3.out.1.cell 9 _ rfl
  have c10 := HS3.out.1.cell 10 _ rfl
  have c11 := HS3.out.1.cell 11 _ rfl
  go_upto_region 5 with (go_at_call 6; refine (HR.out _).mono ?_; intro e4 u4 hq4; obtain ⟨vw, rfl, own4, nil4, b4⟩ := hq4)
  clear c0 c1 c2 c3 c4 c5 c6 c7 c8 c9 c10 c11
  have HS4 : Hid (RotB u4 w.heap.size r ∧ Below w.heap.size w u4 ∧ u1.heap.size ≤ u4.heap.size ∧ (∀ g, va.ownBlock = some g → g < u1.heap.size) ∧ SegO u4 w.heap.size va L ∧ SegO u4 u1.heap.size vx M ∧ SegO u4 u1.heap.size vb L ∧ SegO u4 u1.heap.size vw L) := by
    obtain ⟨a1, a2, a3, a4, s0, s1, s2⟩ := HS3.out
    exact ⟨a1.below b4, a2.trans (b4.mono a2.size), Nat.le_trans (a3) b4.size, a4, s0.below b4, s1.below b4, s2.below b4, ⟨ownsRow_mono own4 (a3), nil4⟩⟩
  clear HS3 own4 nil4 b4
  go_upto_region 6 with (go_at_call 6; refine (HR5.out _).mono ?_; intro e5 u5 hq5; obtain ⟨vy, rfl, own5, nil5, b5⟩ := hq5)
  have HS5 : Hid (RotB u5 w.heap.size r ∧ Below w.heap.size w u5 ∧ u1.heap.size ≤ u5.heap.size ∧ (∀ g, va.ownBlock = some g → g < u1.heap.size) ∧ SegO u5 w.heap.size va L ∧ SegO u5 u1.heap.size vx M ∧ SegO u5 u1.heap.size vb L ∧ SegO u5 u1.heap.size vw L ∧ SegO u5 u1.heap.size vy M) := by
    obtain ⟨a1, a2, a3, a4, s0, s1, s2, s3⟩ := HS4.out
    exact ⟨a1.below b5, a2.trans (b5.mono a2.size), Nat.le_trans (a3) b5.size, a4, s0.below b5, s1.below b5, s2.below b5, s3.below b5, ⟨ownsRow_mono own5 (a3), nil5⟩⟩
  clear HS4 own5 nil5 b5
  obtain ⟨K1, HK⟩ : ∃ K1, Hid (K1 = u1.heap.size) := ⟨_, rfl⟩
  rw [← HK.out] at HS5
  have HA8 : Hid (Calls Try.prog 8 #[va, vw] u5 fun e w' => e = .returned (.bool true) ∧ ∃ m, w' = u5.drewN m) := by
    obtain ⟨a1, a2, a3, a4, s0, s1, s2, s3, s4⟩ := HS5.out
    exact same_ok (Nat.le_trans HLl.out (by omega)) u5 s0 s3
  have HB8 : Hid (∀ m, Calls Try.prog 8 #[vb, vw] (u5.drewN m) fun e w' => e = .returned (.bool true) ∧ ∃ m, w' = u5.drewN m) := fun m => by
    obtain ⟨a1, a2, a3, a4, s0, s1, s2, s3, s4⟩ := HS5.out
    refine (same_ok (Nat.le_trans HLl.out (by omega)) (u5.drewN m) (s2.drew m) (s3.drew m)).mono ?_
    rintro e w' ⟨rfl, m', rfl⟩
    exact ⟨rfl, m + m', World.drewN_drewN _ _ _⟩
  have HS9 : Hid (∀ m, Calls Try.prog 9 #[.agg (metaC va)] (u5.drewN m) fun e w' => e = .returned (.tuple #[]) ∧ (u5.drewN m).grownBy w' va.ownBlock) := fun m => by
    obtain ⟨a1, a2, a3, a4, s0, s1, s2, s3, s4⟩ := HS5.out
    exact spoil_any (u5.drewN m) HLl.out (by have := a2.size; simpa using this) (s0.drew m)
  go_upto_region 8 with first | (go_at_call 7; refine (num_ok _ _).mono ?_; rintro e6 w6 ⟨rfl, hw6⟩; obtain rfl := hw6.symm; clear hw6) | (go_at_call 8; refine HA8.out.mono ?_; clear HA8; rintro e7 w7 ⟨rfl, m7, rfl⟩) | (go_at_call 8; refine (HB8.out _).mono ?_; clear HB8; rintro e8 w8 ⟨rfl, m8, rfl⟩)
  obtain ⟨ao, ak, ac, hva⟩ : ∃ o k c, va = .slice o k c := by
    rcases HS5.out.2.2.2.2.1.own.2 with ⟨h, _⟩ | ⟨g, cap, cur, h, _⟩
    · exact ⟨_, _, _, h⟩
    · exact ⟨_, _, _, h⟩
  subst hva
  go_upto_region 9 with (go_at_call 9; refine (HS9.out _).mono ?_; clear HS9; rintro e9 u6 ⟨rfl, g9⟩)
  have HB9 : Hid (Calls Try.prog 8 #[vb, vw] u6 fun e w' => e = .returned (.bool true) ∧ ∃ m, w' = u6.drewN m) := by
    obtain ⟨a1, a2, a3, a4, s0, s1, s2, s3, s4⟩ := HS5.out
    have far : ∀ {v : Value} {N : List Sg}, SegO u5 K1 v N → SegO u6 K1 v N := fun h => (h.drew _).kept g9 (by
      cases hv : Value.ownBlock _ with
      | none => exact .inl rfl
      | some g =>
        right
        intro e
        have := a4 g e.symm
        have := (own_lt h hv).1
        omega)
    exact same_ok (Nat.le_trans HLl.out (by omega)) u6 (far s2) (far s3)
  have HB10 : Hid (∀ m, Calls Try.prog 8 #[vx, vy] (u6.drewN m) fun e w' => e = .returned (.bool true) ∧ ∃ m, w' = u6.drewN m) := fun m => by
    obtain ⟨a1, a2, a3, a4, s0, s1, s2, s3, s4⟩ := HS5.out
    have far : ∀ {v : Value} {N : List Sg}, SegO u5 K1 v N → SegO u6 K1 v N := fun h => (h.drew _).kept g9 (by
      cases hv : Value.ownBlock _ with
      | none => exact .inl rfl
      | some g =>
        right
        intro e
        have := a4 g e.symm
        have := (own_lt h hv).1
        omega)
    refine (same_ok (Nat.le_trans HMl.out (by omega)) (u6.drewN m) ((far s1).drew m) ((far s4).drew m)).mono ?_
    rintro e w' ⟨rfl, m', rfl⟩
    exact ⟨rfl, m + m', World.drewN_drewN _ _ _⟩
  have HBel : Hid (∀ m, Below w.heap.size w (u6.drewN m)) := fun m => by
    obtain ⟨a1, a2, a3, a4, s0, s1, s2, s3, s4⟩ := HS5.out
    have h6 : Below w.heap.size w u6 := below_grown (below_drewN a2 _) g9 (by have := a2.size; simpa using this) (fun j e => (own_lt s0 e).1)
    exact below_drewN h6 m
  go_wp2_with first | (go_at_call 8; refine HB9.out.mono ?_; clear HB9; rintro e10 w10 ⟨rfl, m10, rfl⟩) | (go_at_call 8; refine (HB10.out _).mono ?_; clear HB10; rintro e11 w11 ⟨rfl, m11, rfl⟩)
  go_ret
  exact ⟨rfl, HBel.out _⟩
end Go.Proofs.Ytidkdifldlfhoaa
