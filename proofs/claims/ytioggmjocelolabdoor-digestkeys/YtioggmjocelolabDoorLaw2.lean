import Derived.Test.YtioggmjocelolabDoorLaw
namespace Go.Proofs.YtioggmjocelolabDoor
open Go.RowKit
set_option linter.unusedVariables false
set_option linter.unusedSimpArgs false

theorem below_alloc1 (u : World) (o : Obj) : Below u.heap.size u (u.alloc o) := (Below.refl _ _).alloc (Nat.le_refl _) o
theorem size_alloc1 (u : World) (o : Obj) : (u.alloc o).heap.size = u.heap.size + 1 := by simp
theorem owns_lt {w : World} {B n : Nat} {b : Nat} {l c : Nat} {xs : List Value} (h : w.ownsRow B 5 1 (.slice (some ⟨b, 0, none⟩) l c) n xs) : B ≤ b ∧ b < w.heap.size := by
  rcases h.2 with ⟨h, _⟩ | ⟨g', c', cur, he, h1, h2, _⟩
  · cases h
  · injection he with e1 e2 e3
    injection e1 with e1
    injection e1 with e4 _
    subst e4
    exact ⟨h1, (Array.getElem?_eq_some_iff.1 h2).1⟩
theorem dig_length {h : Int} (k : Known h) (zs : List Int) : (dig h zs).length = szOf h := by have := szOf_le k; simp [dig, spellL_length]; omega
theorem macL_length {h : Int} (k : Known h) (si so : Eight) (zs : List Int) : (macL h si so zs).length = szOf h := by have := szOf_le k; simp [macL, spellL_length]; omega
/-- digest.Sum of one part. -/
theorem dsum1 {h : Int} (k : Known h) (u : World) (t : TypeId) (x : Value) (ys : List Int) (hx : View u x ys) (hT : Tables u) (hl : ys.length ≤ 33554432) :
    Calls Tryd.prog 17 #[.int .i64 h, .slice (some ⟨u.heap.size, 0, none⟩) 1 1] (u.alloc (.cells #[x] t)) fun e w' => ∃ b, e = .returned (.tuple #[.slice (some ⟨b, 0, none⟩) (szOf h) (szOf h), .int .i64 0]) ∧ u.heap.size ≤ b ∧ b < w'.heap.size ∧ View w' (.slice (some ⟨b, 0, none⟩) (szOf h) (szOf h)) (dig h ys) ∧ Below u.heap.size u w' := by
  refine (dsum h [ys] _ _ k (fun v g hb hg => ?_) (hT.below (below_alloc1 u _) hT.size) (by show _ ≤ _; simpa using hl)).mono ?_
  · rw [size_alloc1] at hg
    exact parts_keep (parts1_alloc t x ys g hx (by omega) (fun h0 b off l c e => by have := view_lt hx h0 b off l c e; omega)) (fun q hq => hb.block q hq)
  · rintro e w' ⟨b, rfl, ho, hb⟩
    rw [size_alloc1] at ho hb
    have h1 := owns_lt ho
    refine ⟨b, rfl, by omega, h1.2, ?_, (below_alloc1 u _).trans (hb.mono (by omega))⟩
    have := owns_view (by rw [← dig, dig_length k]) ho
    simpa [dig] using this
/-- digest.Code of one part. -/
theorem dcode1 {h : Int} (k : Known h) (u : World) (t : TypeId) (kv : Value) (key : List Int) (x : Value) (ys : List Int) (hkv : View u kv key) (hkl : key.length ≤ 33554432) (hx : View u x ys) (hT : Tables u) (hl : ys.length ≤ 33554432) :
    Calls Tryd.prog 16 #[.int .i64 h, kv, .slice (some ⟨u.heap.size, 0, none⟩) 1 1] (u.alloc (.cells #[x] t)) fun e w' => ∃ b, e = .returned (.tuple #[.slice (some ⟨b, 0, none⟩) (szOf h) (szOf h), .int .i64 0]) ∧ u.heap.size ≤ b ∧ b < w'.heap.size ∧ View w' (.slice (some ⟨b, 0, none⟩) (szOf h) (szOf h)) (hmac h key ys) ∧ Below u.heap.size u w' := by
  refine (dcode h kv key [ys] _ _ k (hkv.kept (fun q hq => Below.heap_alloc u _ q hq)) hkl (fun v g hb hg => ?_) (hT.below (below_alloc1 u _) hT.size) (by show _ ≤ _; simpa using hl)).mono ?_
  · rw [size_alloc1] at hg
    exact parts_keep (parts1_alloc t x ys g hx (by omega) (fun h0 b off l c e => by have := view_lt hx h0 b off l c e; omega)) (fun q hq => hb.block q hq)
  · rintro e w' ⟨b, rfl, ho, hb⟩
    rw [size_alloc1] at ho hb
    have h1 := owns_lt ho
    refine ⟨b, rfl, by omega, h1.2, ?_, (below_alloc1 u _).trans (hb.mono (by omega))⟩
    have := owns_view (by rw [hmac, macL_length k]) ho
    simpa using this
section
variable {w w4 u : World} {s0 m0 gs gm : Nat} {h : Int} {si so : Eight} {zs zm : List Int}
/-- Stream.Write of one part. -/
theorem Run.write1 (r : Run w w4 u s0 m0 gs gm h si so zs zm) (k : Known h) (hT : Tables w) (t : TypeId) (x : Value) (ys : List Int) (hx : View u x ys) (hox : ys ≠ [] → ∀ b off l c, x = .slice (some ⟨b, off, none⟩) l c → b ≠ gs) (hl : zs.length + ys.length ≤ 33554432) :
    Calls Tryd.prog 24 #[.pointer (some ⟨gs, 0, none⟩), .slice (some ⟨u.heap.size, 0, none⟩) 1 1] (u.alloc (.cells #[x] t)) fun e w' => e = .returned (.int .i64 0) ∧ Run w w4 w' s0 m0 gs gm h si so (zs ++ ys) zm ∧ (∀ q, q < u.heap.size → q ≠ gs → w'.heap[q]? = u.heap[q]?) := by
  have ra := r.below (below_alloc1 u (.cells #[x] t))
  have hlt := r.sr.lt
  refine (swrite gs h (firstE h) zs [ys] _ _ k ra.sr (parts1_alloc t x ys gs hx (by omega) hox) (ra.tables hT) (Nat.le_trans hT.size r.sB) (by show _ ≤ _; simpa using hl)).mono ?_
  rintro e w' ⟨rfl, ht, hr⟩
  refine ⟨rfl, ra.touchS ht (by simpa using hr), fun q hq hne => ?_⟩
  rw [ht.block q (by rw [size_alloc1]; omega) hne]
  exact Below.heap_alloc u _ q hq
/-- Mac.Write of one part. -/
theorem Run.mwrite1 (r : Run w w4 u s0 m0 gs gm h si so zs zm) (k : Known h) (hT : Tables w) (t : TypeId) (x : Value) (ys : List Int) (hx : View u x ys) (hox : ys ≠ [] → ∀ b off l c, x = .slice (some ⟨b, off, none⟩) l c → b ≠ gm) (hl : zm.length + ys.length ≤ 33554432) :
    Calls Tryd.prog 19 #[.pointer (some ⟨gm, 0, none⟩), .slice (some ⟨u.heap.size, 0, none⟩) 1 1] (u.alloc (.cells #[x] t)) fun e w' => e = .returned (.int .i64 0) ∧ Run w w4 w' s0 m0 gs gm h si so zs (zm ++ ys) ∧ (∀ q, q < u.heap.size → q ≠ gm → w'.heap[q]? = u.heap[q]?) := by
  have ra := r.below (below_alloc1 u (.cells #[x] t))
  have hlt := r.mr.1.lt
  refine (mwrite gm h si so zm [ys] _ _ k ra.mr (parts1_alloc t x ys gm hx (by omega) hox) (ra.tables hT) (Nat.le_trans hT.size r.mB) (by show _ ≤ _; simpa using hl)).mono ?_
  rintro e w' ⟨rfl, ht, hr⟩
  refine ⟨rfl, ra.touchM ht (by simpa using hr), fun q hq hne => ?_⟩
  rw [ht.block q (by rw [size_alloc1]; omega) hne]
  exact Below.heap_alloc u _ q hq
/-- Stream.Write of two parts. -/
theorem Run.write2 (r : Run w w4 u s0 m0 gs gm h si so zs zm) (k : Known h) (hT : Tables w) (t : TypeId) (x y : Value) (ys ys2 : List Int) (hx : View u x ys) (hy : View u y ys2) (hox : ys ≠ [] → ∀ b off l c, x = .slice (some ⟨b, off, none⟩) l c → b ≠ gs) (hoy : ys2 ≠ [] → ∀ b off l c, y = .slice (some ⟨b, off, none⟩) l c → b ≠ gs) (hl : zs.length + (ys ++ ys2).length ≤ 33554432) :
    Calls Tryd.prog 24 #[.pointer (some ⟨gs, 0, none⟩), .slice (some ⟨u.heap.size, 0, none⟩) 2 2] (u.alloc (.cells #[x, y] t)) fun e w' => e = .returned (.int .i64 0) ∧ Run w w4 w' s0 m0 gs gm h si so (zs ++ (ys ++ ys2)) zm ∧ (∀ q, q < u.heap.size → q ≠ gs → w'.heap[q]? = u.heap[q]?) := by
  have ra := r.below (below_alloc1 u (.cells #[x, y] t))
  have hlt := r.sr.lt
  refine (swrite gs h (firstE h) zs [ys, ys2] _ _ k ra.sr (parts2_alloc t x y ys ys2 gs hx hy (by omega) hox hoy) (ra.tables hT) (Nat.le_trans hT.size r.sB) (by show _ ≤ _; simpa using hl)).mono ?_
  rintro e w' ⟨rfl, ht, hr⟩
  refine ⟨rfl, ra.touchS ht (by simpa using hr), fun q hq hne => ?_⟩
  rw [ht.block q (by rw [size_alloc1]; omega) hne]
  exact Below.heap_alloc u _ q hq
theorem Run.mwrite2 (r : Run w w4 u s0 m0 gs gm h si so zs zm) (k : Known h) (hT : Tables w) (t : TypeId) (x y : Value) (ys ys2 : List Int) (hx : View u x ys) (hy : View u y ys2) (hox : ys ≠ [] → ∀ b off l c, x = .slice (some ⟨b, off, none⟩) l c → b ≠ gm) (hoy : ys2 ≠ [] → ∀ b off l c, y = .slice (some ⟨b, off, none⟩) l c → b ≠ gm) (hl : zm.length + (ys ++ ys2).length ≤ 33554432) :
    Calls Tryd.prog 19 #[.pointer (some ⟨gm, 0, none⟩), .slice (some ⟨u.heap.size, 0, none⟩) 2 2] (u.alloc (.cells #[x, y] t)) fun e w' => e = .returned (.int .i64 0) ∧ Run w w4 w' s0 m0 gs gm h si so zs (zm ++ (ys ++ ys2)) ∧ (∀ q, q < u.heap.size → q ≠ gm → w'.heap[q]? = u.heap[q]?) := by
  have ra := r.below (below_alloc1 u (.cells #[x, y] t))
  have hlt := r.mr.1.lt
  refine (mwrite gm h si so zm [ys, ys2] _ _ k ra.mr (parts2_alloc t x y ys ys2 gm hx hy (by omega) hox hoy) (ra.tables hT) (Nat.le_trans hT.size r.mB) (by show _ ≤ _; simpa using hl)).mono ?_
  rintro e w' ⟨rfl, ht, hr⟩
  refine ⟨rfl, ra.touchM ht (by simpa using hr), fun q hq hne => ?_⟩
  rw [ht.block q (by rw [size_alloc1]; omega) hne]
  exact Below.heap_alloc u _ q hq
/-- Stream.Sum. -/
theorem Run.sum (r : Run w w4 u s0 m0 gs gm h si so zs zm) (k : Known h) (hT : Tables w) (hl : zs.length ≤ 33554432) :
    Calls Tryd.prog 26 #[.pointer (some ⟨gs, 0, none⟩)] u fun e w' => ∃ b, e = .returned (.slice (some ⟨b, 0, none⟩) (szOf h) (szOf h)) ∧ View w' (.slice (some ⟨b, 0, none⟩) (szOf h) (szOf h)) (dig h zs) ∧ Run w w4 w' s0 m0 gs gm h si so zs zm ∧ Below u.heap.size u w' := by
  refine (ssum gs h (firstE h) zs u k r.sr (r.tables hT) (by show _ ≤ _; omega)).mono ?_
  rintro e w' ⟨b, rfl, ho, hb⟩
  exact ⟨b, rfl, owns_view (by rw [dig_length k]) ho, r.below hb, hb⟩
/-- Mac.Sum. -/
theorem Run.msum (r : Run w w4 u s0 m0 gs gm h si so zs zm) (k : Known h) (hT : Tables w) (hl : zm.length ≤ 33554432) :
    Calls Tryd.prog 21 #[.pointer (some ⟨gm, 0, none⟩)] u fun e w' => ∃ b, e = .returned (.slice (some ⟨b, 0, none⟩) (szOf h) (szOf h)) ∧ View w' (.slice (some ⟨b, 0, none⟩) (szOf h) (szOf h)) (macL h si so zm) ∧ Run w w4 w' s0 m0 gs gm h si so zs zm ∧ Below u.heap.size u w' := by
  refine (Go.Proofs.YtioggmjocelolabDoor.msum gm h si so zm u k r.mr (r.tables hT) (by show _ ≤ _; omega)).mono ?_
  rintro e w' ⟨b, rfl, ho, hb⟩
  exact ⟨b, rfl, owns_view (by rw [macL_length k]) ho, r.below hb, hb⟩
/-- Both are copied. -/
theorem Run.copyS (r : Run w w4 u s0 m0 gs gm h si so zs zm) :
    Calls Tryd.prog 28 #[.pointer (some ⟨gs, 0, none⟩)] u fun e w' => ∃ g', e = .returned (.pointer (some ⟨g', 0, none⟩)) ∧ Run w w4 w' s0 m0 g' gm h si so zs zm := by
  refine (scopy gs h (firstE h) zs u r.sr).mono ?_
  rintro e w' ⟨g', rfl, hg, hr, hb⟩
  have ra := r.below hb
  have := r.mr.1.lt
  exact ⟨g', rfl, ra.bel, ra.size, ra.kept, .inr (Nat.le_trans r.size hg), ra.gmW, by omega, Nat.le_trans r.bel.size hg, ra.mB, hr, ra.mr⟩
theorem Run.copyM (r : Run w w4 u s0 m0 gs gm h si so zs zm) :
    Calls Tryd.prog 29 #[.pointer (some ⟨gm, 0, none⟩)] u fun e w' => ∃ g', e = .returned (.pointer (some ⟨g', 0, none⟩)) ∧ Run w w4 w' s0 m0 gs g' h si so zs zm := by
  refine (mcopy gm h si so zm u r.mr).mono ?_
  rintro e w' ⟨g', rfl, hg, hr, hb⟩
  have ra := r.below hb
  have := r.sr.lt
  exact ⟨g', rfl, ra.bel, ra.size, ra.kept, ra.gsW, .inr (Nat.le_trans r.size hg), by omega, ra.sB, Nat.le_trans r.bel.size hg, ra.sr, hr⟩
end
theorem same_yes (v1 v2 : Value) (xs : List Int) (w : World) (h1 : View w v1 xs) (h2 : View w v2 xs) : Calls Tryd.prog 12 #[v1, v2] w fun e w' => e = .returned (.bool true) ∧ Sm w w' := by
  refine (same_any v1 v2 xs xs w h1 h2).mono ?_
  rintro e w' ⟨rfl, m, rfl⟩
  exact ⟨by rw [decide_eq_true rfl], (Sm.refl w).drewN m⟩
end Go.Proofs.YtioggmjocelolabDoor
