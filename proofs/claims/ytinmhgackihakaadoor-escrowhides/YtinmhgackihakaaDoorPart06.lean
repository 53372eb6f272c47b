import Derived.Test.YtinmhgackihakaaDoorPart05
import Derived.Test.YtinmhgackihakaaDoorPart04
import Derived.Deep.RegionHeld3
namespace Go.Proofs.YtinmhgackihakaaDoor
open Go.RowKit
set_option linter.unusedVariables false
set_option linter.unusedSimpArgs false

/-- What lies where a taken lies: its digest, its words, the bytes of the half-full block, how much was fed. -/
structure TK (w : World) (g o : Nat) (h : Int) (wd : Bool) (s : Eight) (half : Nat → Int) (fed : Nat) : Prop where
  hash : w.cell? ⟨g, o, none⟩ = some (.int .i64 h)
  fn : w.cell? ⟨g, o + 1, none⟩ = some (fnV wd)
  st : w.rangeAt g (o + 2) s.cells
  half : ∀ i, i < 128 → w.cell? ⟨g, o + 10 + i, none⟩ = some (.int .u8 (half i))
  fed : w.cell? ⟨g, o + 138, none⟩ = some (.int .u64 fed)
  there : w.there g o 139
theorem Eight.cells_length (s : Eight) : s.cells.length = 8 := rfl
/-- The words are changed. -/
theorem TK.words {w v : World} {g o : Nat} {h : Int} {wd : Bool} {s s' : Eight} {half : Nat → Int} {fed : Nat} (k : TK w g o h wd s half fed) (t : Touch w v g (o + 2) 8) (hr : v.rangeAt g (o + 2) s'.cells) : TK v g o h wd s' half fed :=
  ⟨by rw [t.cell _ (by omega)]; exact k.hash, by rw [t.cell _ (by omega)]; exact k.fn, hr, fun i hi => by rw [t.cell _ (by omega)]; exact k.half i hi, by rw [t.cell _ (by omega)]; exact k.fed, t.there _ _ k.there⟩
/-- How much was fed is changed. -/
theorem TK.setFed {w : World} {g o : Nat} {h : Int} {wd : Bool} {s : Eight} {half : Nat → Int} {fed : Nat} (k : TK w g o h wd s half fed) (fed' : Nat) (x : Int) (hx : x = fed') : TK (w.setCell ⟨g, o + 138, none⟩ (.int .u64 x)) g o h wd s half fed' := by
  subst hx
  have t : Touch w (w.setCell ⟨g, o + 138, none⟩ (.int .u64 fed')) g (o + 138) 1 := (Touch.refl _ _ _ _).setCell _ _ (by omega) (by omega)
  refine ⟨by rw [t.cell _ (by omega)]; exact k.hash, by rw [t.cell _ (by omega)]; exact k.fn, fun j v hv => ?_, fun i hi => by rw [t.cell _ (by omega)]; exact k.half i hi, World.cell?_setCell_same' _ _ _ (k.there 138 (by omega)).1, t.there _ _ k.there⟩
  have hj : j < 8 := by
    by_cases hj : j < s.cells.length
    · exact hj
    · rw [List.getElem?_eq_none (by omega)] at hv; cases hv
  rw [t.cell _ (by omega)]
  exact k.st j v hv
/-- Bytes of the half-full block are changed. -/
theorem TK.setHalf {w : World} {g o : Nat} {h : Int} {wd : Bool} {s : Eight} {half : Nat → Int} {fed : Nat} (k : TK w g o h wd s half fed) (u : Nat) (xs : List Int) (hu : u + xs.length ≤ 128) :
    TK (w.setCells g (o + 10 + u) (cellsU8 xs)) g o h wd s (fun i => if u ≤ i ∧ i < u + xs.length then xs.getD (i - u) 0 else half i) fed ∧ Touch w (w.setCells g (o + 10 + u) (cellsU8 xs)) g o 139 := by
  have hl := cellsU8_length xs
  have t : Touch w (w.setCells g (o + 10 + u) (cellsU8 xs)) g (o + 10 + u) xs.length := (Touch.refl _ _ _ _).setCells _ _ (by omega) (by omega)
  refine ⟨⟨by rw [t.cell _ (by omega)]; exact k.hash, by rw [t.cell _ (by omega)]; exact k.fn, fun j v hv => ?_, fun i hi => ?_, by rw [t.cell _ (by omega)]; exact k.fed, t.there _ _ k.there⟩, t.mono o 139 (by omega) (by omega)⟩
  · have hj : j < 8 := by
      by_cases hj : j < s.cells.length
      · exact hj
      · rw [List.getElem?_eq_none (by omega)] at hv; cases hv
    rw [t.cell _ (by omega)]
    exact k.st j v hv
  · by_cases hin : u ≤ i ∧ i < u + xs.length
    · rw [if_pos hin]
      have := World.rangeAt_setCells_same w g (o + 10 + u) (cellsU8 xs) (fun j hj => by have := k.there (10 + u + j) (by omega); rw [← Nat.add_assoc, ← Nat.add_assoc] at this; exact this) (i - u) (.int .u8 (xs.getD (i - u) 0)) (by simp [cellsU8, List.getD, List.getElem?_eq_getElem (show i - u < xs.length by omega)])
      rw [show o + 10 + u + (i - u) = o + 10 + i by omega] at this
      exact this
    · rw [if_neg hin, t.cell _ (by omega)]
      exact k.half i hi
theorem TK.sm {w v : World} {g o : Nat} {h : Int} {wd : Bool} {s : Eight} {half : Nat → Int} {fed : Nat} (k : TK w g o h wd s half fed) (t : Sm w v) : TK v g o h wd s half fed :=
  ⟨by rw [t.cell]; exact k.hash, by rw [t.cell]; exact k.fn, fun j v hv => by rw [t.cell]; exact k.st j v hv, fun i hi => by rw [t.cell]; exact k.half i hi, by rw [t.cell]; exact k.fed, (t.touch g 0 0).there _ _ k.there⟩
theorem Sm.drew {w v : World} (h : Sm w v) : Sm w v.drew := ⟨h.os, h.tape, h.output, h.heap⟩
theorem Sm.view {w v : World} {x : Value} {zs : List Int} (h : Sm w v) (hv : View w x zs) : View v x zs := hv.kept fun k _ => by rw [h.heap]
theorem Sm.tables {w v : World} (h : Sm w v) (hv : Tables w) : Tables v := hv.kept fun k _ => by rw [h.heap]
/-- A slice's bytes that lie outside what is touched. -/
theorem Touch.view {w v : World} {g o n : Nat} (h : Touch w v g o n) {x : Value} {zs : List Int} (hv : View w x zs) (ha : Apart x g o n) : View v x zs := by
  obtain ⟨a, cap, rfl, h1, h2, h3, h4⟩ := hv
  refine ⟨a, cap, rfl, h1, h2, h3, ?_⟩
  rcases h4 with rfl | ⟨b, p, rfl, hc⟩
  · exact .inl rfl
  · refine .inr ⟨b, p, rfl, fun i hi => ?_⟩
    exact h.outside (hc i hi) (by rcases ha _ _ _ _ rfl with e | e; exact .inl e; exact .inr (by omega))
theorem view_take {w : World} {b p n cap m : Nat} {zs : List Int} (hv : View w (.slice (some ⟨b, p, none⟩) n cap) zs) (hm : m ≤ n) : View w (.slice (some ⟨b, p, none⟩) m cap) (zs.take m) := by
  obtain ⟨a, c, he, h1, h2, h3, h4⟩ := hv
  cases he
  have hl : (zs.take m).length = m := by simp; omega
  refine ⟨some ⟨b, p, none⟩, cap, by rw [hl], by omega, h2, h3, ?_⟩
  rcases h4 with rfl | ⟨b', p', e, hc⟩
  · exact .inl (by simp)
  · cases e
    refine .inr ⟨b, p, rfl, fun i hi => ?_⟩
    rw [hc i (by omega)]
    simp [List.getD, List.getElem?_take, show i < m by omega]
theorem view_drop {w : World} {b p n cap m : Nat} {zs : List Int} (hv : View w (.slice (some ⟨b, p, none⟩) n cap) zs) (hm : m ≤ n) : View w (.slice (if cap = m then some ⟨b, p, none⟩ else some ⟨b, p + m, none⟩) (n - m) (cap - m)) (zs.drop m) := by
  obtain ⟨a, c, he, h1, h2, h3, h4⟩ := hv
  cases he
  have hl : (zs.drop m).length = zs.length - m := by simp
  refine ⟨_, cap - m, by rw [hl], by omega, by omega, (fun e => by split at e <;> cases e), ?_⟩
  by_cases hz : zs.length = m
  · exact .inl (by rw [List.drop_eq_nil_iff]; omega)
  · rcases h4 with rfl | ⟨b', p', e, hc⟩
    · exact .inl (by simp)
    · cases e
      rw [if_neg (by omega)]
      refine .inr ⟨b, p + m, rfl, fun i hi => ?_⟩
      rw [Nat.add_assoc, hc (m + i) (by omega)]
      simp [List.getD]
theorem view_half {w : World} {g o : Nat} {h : Int} {wd : Bool} {s : Eight} {half : Nat → Int} {fed : Nat} (k : TK w g o h wd s half fed) (n : Nat) (hn : n ≤ 128) : View w (.slice (some ⟨g, o + 10, none⟩) n 128) ((List.range n).map half) := by
  refine ⟨some ⟨g, o + 10, none⟩, 128, by simp, by simp; omega, by unfold maxLen; omega, (fun e => by cases e), .inr ⟨g, o + 10, rfl, fun i hi => ?_⟩⟩
  simp at hi
  rw [k.half i (by omega)]
  simp [List.getD, hi]
theorem apart_mono {v : Value} {g o n o' n' : Nat} (h : Apart v g o n) (h1 : o ≤ o') (h2 : o' + n' ≤ o + n) : Apart v g o' n' := fun b off l c e => by
  rcases h b off l c e with h | h
  · exact .inl h
  · exact .inr (by omega)
theorem view_drop2 {w : World} {b p k n cap P : Nat} {zs : List Int} (hv : View w (.slice (some ⟨b, p, none⟩) (k + n) (k + cap)) zs) (hP : P = if cap = 0 then p else p + k) : View w (.slice (some ⟨b, P, none⟩) n cap) (zs.drop k) := by
  have h := view_drop hv (show k ≤ k + n by omega)
  rw [show k + n - k = n by omega, show k + cap - k = cap by omega] at h
  have e : (if k + cap = k then some (⟨b, p, none⟩ : Addr) else some ⟨b, p + k, none⟩) = some ⟨b, P, none⟩ := by
    rw [hP]
    by_cases h0 : cap = 0
    · rw [if_pos (by omega), if_pos h0]
    · rw [if_neg (by omega), if_neg h0]
  rw [e] at h
  exact h
theorem apart_drop2 {b p k n cap P g o m : Nat} (h : Apart (.slice (some ⟨b, p, none⟩) (k + n) (k + cap)) g o m) (hn : n ≤ cap) (hP : P = if cap = 0 then p else p + k) : Apart (.slice (some ⟨b, P, none⟩) n cap) g o m := fun b' off l c e => by
  injection e with e1 e2 e3
  injection e1 with e1
  injection e1 with e4 e5
  subst e4 e5 e2 e3
  rcases h _ _ _ _ rfl with h | h
  · exact .inl h
  · right
    subst hP
    split <;> omega
theorem apart_take {b p n cap m g o k : Nat} (h : Apart (.slice (some ⟨b, p, none⟩) n cap) g o k) (hm : m ≤ n) : Apart (.slice (some ⟨b, p, none⟩) m cap) g o k := fun b' off l c e => by
  cases e
  rcases h _ _ _ _ rfl with h | h
  · exact .inl h
  · exact .inr (by omega)
theorem view_bounds {w : World} {a : Option Addr} {n c : Nat} {zs : List Int} (hv : View w (.slice a n c) zs) : zs.length = n ∧ n ≤ c ∧ c ≤ 9223372036854775807 := by
  obtain ⟨_, _, e, h1, h2, _⟩ := hv
  injection e with e1 e2 e3
  unfold maxLen at h2
  omega
/-- copy, into memory that can be written. -/
theorem copy_eq (w : World) (g o dl dc : Nat) (x : Option Addr) (m c k : Nat) (xs : List Int) (hk : k = min m dl) (hv : View w (.slice x m c) xs) (ht : w.there g o k) :
    (Builtin.copy_ #[23, 23] 3 #[.slice (some ⟨g, o, none⟩) dl dc, .slice x m c]).run Tryd.prog w = .ok (.int .i64 k) (w.setCells g o (cellsU8 (xs.take k))) := by
  obtain ⟨a, cap, he, h1, h2, h3, h4⟩ := hv
  cases he
  have hl : (cellsU8 (xs.take k)).length = k := by rw [cellsU8_length]; simp; omega
  by_cases h0 : k = 0
  · subst h0
    exact run_copy_none (P := Tryd.prog) w 23 23 3 5 (some ⟨g, o, none⟩) x dl dc xs.length c Tryd.underlying23 (by kernel_rfl) (by show min _ _ = 0; omega)
  · rcases h4 with rfl | ⟨b, p, rfl, hc⟩
    · exfalso; simp at hk; omega
    · have := run_copy_cells (P := Tryd.prog) w 23 23 3 5 g o dl dc ⟨b, p, none⟩ xs.length c (cellsU8 (xs.take k)) Tryd.underlying23 (by kernel_rfl) (by rw [hl]; show k = min _ _; omega) (by
        refine cellsU8_at (xs.take k) w b p fun i hi => ?_
        rw [hc i (by simp at hi; omega)]
        simp at hi
        simp [List.getD, List.getElem?_take, show i < k by omega]) (fun j hj => (ht j (by omega)).1) (fun j hj => (ht j (by omega)).2) (by
        intro v hv
        simp only [cellsU8, List.mem_map] at hv
        obtain ⟨z, _, rfl⟩ := hv
        rfl)
      rw [hl] at this
      exact this

set_option maxHeartbeats 3200000 in
set_option maxRecDepth 100000 in
theorem add_zero64 (g o : Nat) (h : Int) (s : Eight) (half : Nat → Int) (fed n wh cap b p : Nat) (zs : List Int) (w : World) (hblk : blockOf h = 64) (HK : Hid (TK w g o h false s half fed)) (hn : Hid (zs.length = n)) (hfn : fed + n ≤ 4611686018427387904)
    (hv : Hid (View w (.slice (some ⟨b, p, none⟩) n cap) zs)) (hsep : Hid (Apart (.slice (some ⟨b, p, none⟩) n cap) g o 139)) (hT : Hid (Tables w)) (hg : 2 ≤ g) (h0 : Hid (fed % 64 = 0)) (hq : Hid (n = wh + n % 64)) :
    Calls Tryd.prog 87 #[.pointer (some ⟨g, o, none⟩), .slice (some ⟨b, p, none⟩) n cap] w fun e w' => e = .returned (.tuple #[]) ∧ Touch w w' g o 139 ∧ TK w' g o h false (TT false (fun i => (zs.take wh).getD i 0) s (wh / 64)) (fun i => if 0 ≤ i ∧ i < 0 + (zs.drop wh).length then (zs.drop wh).getD (i - 0) 0 else half i) (fed + n) := by
  have c0 := HK.out.hash
  have c138 := HK.out.fed
  have f138 : w.frozen? ⟨g, o + 138, none⟩ = false := (HK.out.there 138 (by omega)).2
  have hgw : g < w.heap.size := lt_of_cell c0
  have r0 : ((fed : Int) % 64) = 0 := by have := h0.out; omega
  have r1 : ((n : Int) - (n : Int) % 64) = (wh : Int) := by have := hq.out; omega
  have hwn : (wh : Int) ≤ (n : Int) := by have := hq.out; omega
  have hnc : n ≤ cap := by have := view_bounds hv.out; omega
  have hwc : (wh : Int) ≤ (cap : Int) := by omega
  have hw0 : (0 : Int) ≤ (wh : Int) := by omega
  have hcm : cap ≤ 9223372036854775807 := (view_bounds hv.out).2.2
  go_enter Tryd.func87, Tryd.ntmps87
  go_wp2_with (first | (go_at_call 83; refine (block_any _ _).mono ?_; rintro e1 w1 ⟨rfl, hw1⟩; obtain rfl := hw1.symm; rw [hblk]))
  have HT1 : Hid (Touch w (w.setCell ⟨g, o + 138, none⟩ (.int .u64 (fed + n))) g o 139) := (Touch.refl _ _ _ _).setCell _ _ (by omega) (by omega)
  have HK1 : Hid (TK (w.setCell ⟨g, o + 138, none⟩ (.int .u64 (fed + n))) g o h false s half (fed + n)) := HK.out.setFed _ _ (by simp)
  generalize w.setCell ⟨g, o + 138, none⟩ (.int .u64 (fed + n)) = w1 at HT1 HK1 ⊢
  clear c0 c138 f138
  have c1' : w1.cell? ⟨g, o + 1, none⟩ = some (.func (.func 84) #[] #[]) := HK1.out.fn
  have HA : Hid (∀ v, Sm w1 v → Calls Tryd.prog 84 #[.pointer (some ⟨g, o + 2, none⟩), .slice (some ⟨b, p, none⟩) wh cap] v fun e w' => e = .returned (.tuple #[]) ∧ Touch w w' g o 139 ∧ TK w' g o h false (TT false (fun i => (zs.take wh).getD i 0) s (wh / 64)) half (fed + n)) := by
    intro v hsm
    have hs1 := HT1.out.size
    have hl : (zs.take wh).length = wh := by have := hn.out; simp; omega
    refine (take_any false g (o + 2) _ (zs.take wh) s v (by rw [hsm.heap]; omega) (HK1.out.sm hsm).st (fun j hj => by have := (HK1.out.sm hsm).there (2 + j) (by omega); rw [← Nat.add_assoc] at this; exact this) (view_take (hsm.view (HT1.out.view hv.out hsep.out)) (by omega)) (apart_mono (apart_take hsep.out (by omega)) (by omega) (by omega)) (hsm.tables (hT.out.touch HT1.out hg)) hg).mono ?_
    rintro e w' ⟨rfl, ht', hr'⟩
    rw [hl] at hr'
    refine ⟨rfl, HT1.out.trans ((hsm.touch g o 139).trans (ht'.mono o 139 (by omega) (by omega))), (HK1.out.sm hsm).words ht' hr'⟩
  go_region_held3 (fun v => v.cell? ⟨g, o + 1, none⟩ = some (.func (.func 84) #[] #[])) (first | go_keep | exact hk2.fn) ((go_at_call 84; refine (HA.out w1.drew (Sm.refl w1).drew).mono ?_; rintro e2 w2 ⟨rfl, ht2, hk2⟩))
  have HT2 : Hid (Touch w w2 g o 139) := ht2
  have HK2 : Hid (TK w2 g o h false (TT false (fun i => (zs.take wh).getD i 0) s (wh / 64)) half (fed + n)) := hk2
  obtain ⟨X, hX⟩ : ∃ X, X = (if cap = wh then some (⟨b, p, none⟩ : Addr) else some ⟨b, p + wh, none⟩) := ⟨_, rfl⟩
  have hcp : (Builtin.copy_ #[23, 23] 3 #[.slice (some ⟨g, o + 10, none⟩) 64 128, .slice X (n - wh) (cap - wh)]).run Tryd.prog w2.drew = .ok (.int .i64 ((n - wh : Nat) : Int)) (w2.drew.setCells g (o + 10) (cellsU8 ((zs.drop wh).take (n - wh)))) := by
    have hv2 := view_drop (HT2.out.view hv.out hsep.out) (show wh ≤ n by omega)
    rw [← hX] at hv2
    refine copy_eq w2.drew g (o + 10) 64 128 X (n - wh) (cap - wh) (n - wh) (zs.drop wh) ?_ hv2 (fun j hj => ?_)
    · have := hq.out; omega
    · have := HK2.out.there (10 + j) (by have := hq.out; omega)
      rw [← Nat.add_assoc] at this
      exact this
  rw [eq_comm] at hX
  clear ht2 hk2 HA c1' HT1 HK1
  go_wp2
  go_region
  go_wp2
  go_end0
  have hl : (zs.drop wh).length = n - wh := by have := hn.out; simp; omega
  have hx := (HK2.out.sm (Sm.refl w2).drew).setHalf 0 (zs.drop wh) (by have := hq.out; omega)
  rw [List.take_of_length_le (by omega)]
  exact ⟨rfl, (HT2.out.drew).trans hx.2, hx.1⟩

set_option maxHeartbeats 3200000 in
set_option maxRecDepth 100000 in
theorem add_few64 (g o : Nat) (h : Int) (s : Eight) (half : Nat → Int) (fed n used cap b p : Nat) (zs : List Int) (w : World) (hblk : blockOf h = 64) (HK : Hid (TK w g o h false s half fed)) (hn : Hid (zs.length = n)) (hfn : fed + n ≤ 4611686018427387904)
    (hv : Hid (View w (.slice (some ⟨b, p, none⟩) n cap) zs)) (hsep : Hid (Apart (.slice (some ⟨b, p, none⟩) n cap) g o 139)) (hg : 2 ≤ g) (h0 : Hid (fed % 64 = used)) (hu0 : 0 < used) (hu1 : used + n < 64) :
    Calls Tryd.prog 87 #[.pointer (some ⟨g, o, none⟩), .slice (some ⟨b, p, none⟩) n cap] w fun e w' => e = .returned (.tuple #[]) ∧ Touch w w' g o 139 ∧ TK w' g o h false s (fun i => if used ≤ i ∧ i < used + zs.length then zs.getD (i - used) 0 else half i) (fed + n) := by
  have c0 := HK.out.hash
  have c138 := HK.out.fed
  have f138 : w.frozen? ⟨g, o + 138, none⟩ = false := (HK.out.there 138 (by omega)).2
  have hgw : g < w.heap.size := lt_of_cell c0
  have r0 : ((fed : Int) % 64) = (used : Int) := by have := h0.out; omega
  have hu2 : (0 : Int) < (used : Int) := by omega
  have hu3 : (used : Int) + (n : Int) < 64 := by omega
  have hu4 : (used : Int) ≤ 64 := by omega
  have HT1 : Hid (Touch w (w.setCell ⟨g, o + 138, none⟩ (.int .u64 (fed + n))) g o 139) := (Touch.refl _ _ _ _).setCell _ _ (by omega) (by omega)
  have HK1 : Hid (TK (w.setCell ⟨g, o + 138, none⟩ (.int .u64 (fed + n))) g o h false s half (fed + n)) := HK.out.setFed _ _ (by simp)
  have hcp : (Builtin.copy_ #[23, 23] 3 #[.slice (some ⟨g, o + 10 + used, none⟩) (64 - used) (128 - used), .slice (some ⟨b, p, none⟩) n cap]).run Tryd.prog (w.setCell ⟨g, o + 138, none⟩ (.int .u64 (fed + n))) = .ok (.int .i64 n) ((w.setCell ⟨g, o + 138, none⟩ (.int .u64 (fed + n))).setCells g (o + 10 + used) (cellsU8 (zs.take n))) := by
    refine copy_eq _ g (o + 10 + used) _ _ _ n cap n zs (by omega) (HT1.out.view hv.out hsep.out) (fun j hj => ?_)
    have := HK1.out.there (10 + used + j) (by omega)
    rw [← Nat.add_assoc, ← Nat.add_assoc] at this
    exact this
  go_enter Tryd.func87, Tryd.ntmps87
  go_wp2_with (first | (go_at_call 83; refine (block_any _ _).mono ?_; rintro e1 w1 ⟨rfl, hw1⟩; obtain rfl := hw1.symm; rw [hblk]))
  refine bodyPost_ret (results_none rfl _ _ _) rfl ?_
  have hl := hn.out
  rw [List.take_of_length_le (by omega)]
  have hx := HK1.out.setHalf used zs (by omega)
  exact ⟨rfl, HT1.out.trans hx.2, hx.1⟩

set_option maxHeartbeats 3200000 in
set_option maxRecDepth 100000 in
theorem add_many64 (g o : Nat) (h : Int) (s : Eight) (half : Nat → Int) (fed k n wh used cap b p : Nat) (zs : List Int) (w : World) (hblk : blockOf h = 64) (HK : Hid (TK w g o h false s half fed)) (hn : Hid (zs.length = k + n)) (hfn : fed + (k + n) ≤ 4611686018427387904)
    (hv : Hid (View w (.slice (some ⟨b, p, none⟩) (k + n) (k + cap)) zs)) (hsep : Hid (Apart (.slice (some ⟨b, p, none⟩) (k + n) (k + cap)) g o 139)) (hT : Hid (Tables w)) (hg : 2 ≤ g) (h0 : Hid (fed % 64 = used)) (hu0 : 0 < used) (hu1 : used + k = 64) (hq : Hid (n = wh + n % 64)) :
    Calls Tryd.prog 87 #[.pointer (some ⟨g, o, none⟩), .slice (some ⟨b, p, none⟩) (k + n) (k + cap)] w fun e w' => e = .returned (.tuple #[]) ∧ Touch w w' g o 139 ∧ ∃ s1, s1 = TT false (fun i => if used ≤ i ∧ i < used + (zs.take k).length then (zs.take k).getD (i - used) 0 else half i) s 1 ∧
      TK w' g o h false (TT false (fun i => ((zs.drop k).take wh).getD i 0) s1 (wh / 64)) (fun i => if 0 ≤ i ∧ i < 0 + ((zs.drop k).drop wh).length then ((zs.drop k).drop wh).getD (i - 0) 0 else (fun i => if used ≤ i ∧ i < used + (zs.take k).length then (zs.take k).getD (i - used) 0 else half i) i) (fed + (k + n)) := by
  have c0 := HK.out.hash
  have c138 := HK.out.fed
  have f138 : w.frozen? ⟨g, o + 138, none⟩ = false := (HK.out.there 138 (by omega)).2
  have hgw : g < w.heap.size := lt_of_cell c0
  have hnc : n ≤ cap := by have := view_bounds hv.out; omega
  have hcm : k + cap ≤ 9223372036854775807 := (view_bounds hv.out).2.2
  have r0 : ((fed : Int) % 64) = (used : Int) := by have := h0.out; omega
  have r1 : ((n : Int) - (n : Int) % 64) = (wh : Int) := by have := hq.out; omega
  have hwn : (wh : Int) ≤ (n : Int) := by have := hq.out; omega
  have hwc : (wh : Int) ≤ (cap : Int) := by omega
  have hw0 : (0 : Int) ≤ (wh : Int) := by omega
  have hu2 : (0 : Int) < (used : Int) := by omega
  have hu3 : ¬ ((used : Int) + (k : Int) < 64) := by omega
  have hu4 : (used : Int) ≤ 64 := by omega
  have hk0 : (0 : Int) ≤ (k : Int) := by omega
  have hk1 : (k : Int) ≤ (k : Int) + (n : Int) := by omega
  have HT1 : Hid (Touch w (w.setCell ⟨g, o + 138, none⟩ (.int .u64 (fed + (k + n)))) g o 139) := (Touch.refl _ _ _ _).setCell _ _ (by omega) (by omega)
  have HK1 : Hid (TK (w.setCell ⟨g, o + 138, none⟩ (.int .u64 (fed + (k + n)))) g o h false s half (fed + (k + n))) := HK.out.setFed _ _ (by simp)
  have hl : (zs.take k).length = k := by have := hn.out; simp; omega
  have hcp : (Builtin.copy_ #[23, 23] 3 #[.slice (some ⟨g, o + 10 + used, none⟩) (64 - used) (128 - used), .slice (some ⟨b, p, none⟩) (k + n) (k + cap)]).run Tryd.prog (w.setCell ⟨g, o + 138, none⟩ (.int .u64 (fed + (k + n)))) = .ok (.int .i64 k) ((w.setCell ⟨g, o + 138, none⟩ (.int .u64 (fed + (k + n)))).setCells g (o + 10 + used) (cellsU8 (zs.take k))) := by
    refine copy_eq _ g (o + 10 + used) _ _ _ (k + n) _ k zs (by omega) (HT1.out.view hv.out hsep.out) (fun j hj => ?_)
    have := HK1.out.there (10 + used + j) (by omega)
    rw [← Nat.add_assoc, ← Nat.add_assoc] at this
    exact this
  have hx := HK1.out.setHalf used (zs.take k) (by omega)
  have HT2 : Hid (Touch w ((w.setCell ⟨g, o + 138, none⟩ (.int .u64 (fed + (k + n)))).setCells g (o + 10 + used) (cellsU8 (zs.take k))) g o 139) := HT1.out.trans hx.2
  have HK2 : Hid (TK ((w.setCell ⟨g, o + 138, none⟩ (.int .u64 (fed + (k + n)))).setCells g (o + 10 + used) (cellsU8 (zs.take k))) g o h false s (fun i => if used ≤ i ∧ i < used + (zs.take k).length then (zs.take k).getD (i - used) 0 else half i) (fed + (k + n))) := hx.1
  clear hx
  obtain ⟨H2, hH2⟩ : ∃ H2, H2 = (fun i => if used ≤ i ∧ i < used + (zs.take k).length then (zs.take k).getD (i - used) 0 else half i) := ⟨_, rfl⟩
  rw [← hH2] at HK2 ⊢
  clear hH2
  have hf0 : (used : Int) < 64 → True := fun _ => trivial
  go_enter Tryd.func87, Tryd.ntmps87
  go_wp2_with (first | (go_at_call 83; refine (block_any _ _).mono ?_; rintro e1 w1 ⟨rfl, hw1⟩; obtain rfl := hw1.symm; rw [hblk]))
  generalize (w.setCell ⟨g, o + 138, none⟩ (.int .u64 (fed + (k + n)))).setCells g (o + 10 + used) (cellsU8 (zs.take k)) = w2 at HT2 HK2 hcp ⊢
  clear c0 c138 f138 hcp HT1 HK1
  have c1' : w2.cell? ⟨g, o + 1, none⟩ = some (.func (.func 84) #[] #[]) := HK2.out.fn
  have HA : Hid (∀ v, Sm w2 v → Calls Tryd.prog 84 #[.pointer (some ⟨g, o + 2, none⟩), .slice (some ⟨g, o + 10, none⟩) 64 128] v fun e w' => e = .returned (.tuple #[]) ∧ Touch w w' g o 139 ∧ TK w' g o h false (TT false H2 s 1) H2 (fed + (k + n))) := by
    intro v hsm
    have hs1 := HT2.out.size
    have hk' := HK2.out.sm hsm
    refine (take_any false g (o + 2) _ ((List.range 64).map H2) s v (by rw [hsm.heap]; omega) hk'.st (fun j hj => by have := hk'.there (2 + j) (by omega); rw [← Nat.add_assoc] at this; exact this) (view_half hk' 64 (by omega)) (fun _ _ _ _ e => by injection e with e1 e2 e3; injection e1 with e1; injection e1 with e4 e5; omega) (hsm.tables (hT.out.touch HT2.out hg)) hg).mono ?_
    rintro e w' ⟨rfl, ht', hr'⟩
    rw [show ((List.range 64).map H2).length / bsz false = 1 by simp [bsz], TT_congr false (B' := H2) s 1 (fun j hj => by simp [bsz] at hj; simp [List.getD, hj])] at hr'
    refine ⟨rfl, HT2.out.trans ((hsm.touch g o 139).trans (ht'.mono o 139 (by omega) (by omega))), hk'.words ht' hr'⟩
  go_region_held3 (fun v => v.cell? ⟨g, o + 1, none⟩ = some (.func (.func 84) #[] #[])) (first | go_keep | exact hk3.fn) ((go_at_call 84; refine (HA.out w2.drew (Sm.refl w2).drew).mono ?_; rintro e3 w3 ⟨rfl, ht3, hk3⟩))
  have HT3 : Hid (Touch w w3 g o 139) := ht3
  have HK3 : Hid (TK w3 g o h false (TT false H2 s 1) H2 (fed + (k + n))) := hk3
  clear ht3 hk3 HA c1' HT2 HK2
  obtain ⟨s1, hs1⟩ : ∃ s1, s1 = TT false H2 s 1 := ⟨_, rfl⟩
  rw [← hs1] at HK3
  have HE1 : Hid (s1 = TT false H2 s 1) := hs1
  clear hs1
  obtain ⟨P, hP⟩ : ∃ P, P = (if cap = 0 then p else p + k) := ⟨_, rfl⟩
  have hX : (if cap = 0 then some (⟨b, p, none⟩ : Addr) else some ⟨b, p + k, none⟩) = some ⟨b, P, none⟩ := by rw [hP]; split <;> rfl
  have HV3 : Hid (View w3 (.slice (some ⟨b, P, none⟩) n cap) (zs.drop k)) := view_drop2 (HT3.out.view hv.out hsep.out) hP
  have HS3 : Hid (Apart (.slice (some ⟨b, P, none⟩) n cap) g o 139) := apart_drop2 hsep.out hnc hP
  have hN3 : (zs.drop k).length = n := by have := hn.out; simp; omega
  have HN3 : Hid ((zs.drop k).length = n) := hN3
  clear hN3
  clear hP
  obtain ⟨ys, hys⟩ : ∃ ys, ys = zs.drop k := ⟨_, rfl⟩
  rw [← hys] at HV3 HN3
  have HE2 : Hid (ys = zs.drop k) := hys
  clear hys
  go_wp2
  have c1' : w3.cell? ⟨g, o + 1, none⟩ = some (.func (.func 84) #[] #[]) := HK3.out.fn
  have HA : Hid (∀ v, Sm w3 v → Calls Tryd.prog 84 #[.pointer (some ⟨g, o + 2, none⟩), .slice (some ⟨b, P, none⟩) wh cap] v fun e w' => e = .returned (.tuple #[]) ∧ Touch w3 w' g o 139 ∧ TK w' g o h false (TT false (fun i => (ys.take wh).getD i 0) s1 (wh / 64)) H2 (fed + (k + n))) := by
    intro v hsm
    have hs1 := HT3.out.size
    have hk' := HK3.out.sm hsm
    have hl : (ys.take wh).length = wh := by have := HN3.out; simp; omega
    refine (take_any false g (o + 2) _ (ys.take wh) s1 v (by rw [hsm.heap]; omega) hk'.st (fun j hj => by have := hk'.there (2 + j) (by omega); rw [← Nat.add_assoc] at this; exact this) (view_take (hsm.view HV3.out) (by omega)) (apart_mono (apart_take HS3.out (by omega)) (by omega) (by omega)) (hsm.tables (hT.out.touch HT3.out hg)) hg).mono ?_
    rintro e w' ⟨rfl, ht', hr'⟩
    rw [hl] at hr'
    refine ⟨rfl, (hsm.touch g o 139).trans (ht'.mono o 139 (by omega) (by omega)), hk'.words ht' hr'⟩
  go_region_held3 (fun v => v.cell? ⟨g, o + 1, none⟩ = some (.func (.func 84) #[] #[])) (first | go_keep | exact hk4.fn) ((go_at_call 84; refine (HA.out w3.drew (Sm.refl w3).drew).mono ?_; rintro e4 w4 ⟨rfl, ht4, hk4⟩))
  have HT4 : Hid (Touch w3 w4 g o 139) := ht4
  have HK4 : Hid (TK w4 g o h false (TT false (fun i => (ys.take wh).getD i 0) s1 (wh / 64)) H2 (fed + (k + n))) := hk4
  obtain ⟨X, hX2⟩ : ∃ X, X = (if cap = wh then some (⟨b, P, none⟩ : Addr) else some ⟨b, P + wh, none⟩) := ⟨_, rfl⟩
  have hcp : (Builtin.copy_ #[23, 23] 3 #[.slice (some ⟨g, o + 10, none⟩) 64 128, .slice X (n - wh) (cap - wh)]).run Tryd.prog w4.drew = .ok (.int .i64 ((n - wh : Nat) : Int)) (w4.drew.setCells g (o + 10) (cellsU8 ((ys.drop wh).take (n - wh)))) := by
    have hv2 := view_drop (HT4.out.view HV3.out HS3.out) (show wh ≤ n by omega)
    rw [← hX2] at hv2
    refine copy_eq w4.drew g (o + 10) 64 128 X (n - wh) (cap - wh) (n - wh) (ys.drop wh) ?_ hv2 (fun j hj => ?_)
    · have := hq.out; omega
    · have := HK4.out.there (10 + j) (by have := hq.out; omega)
      rw [← Nat.add_assoc] at this
      exact this
  rw [eq_comm] at hX2
  clear ht4 hk4 HA c1'
  go_wp2
  go_region
  go_wp2
  go_end0
  have hl : (ys.drop wh).length = n - wh := by have := HN3.out; simp; omega
  have hx := (HK4.out.sm (Sm.refl w4).drew).setHalf 0 (ys.drop wh) (by have := hq.out; omega)
  rw [List.take_of_length_le (by omega)]
  have e1 := HE1.out
  have e2 := HE2.out
  subst e1 e2
  exact ⟨rfl, (HT3.out.trans HT4.out.drew).trans hx.2, _, rfl, hx.1⟩

set_option maxHeartbeats 3200000 in
set_option maxRecDepth 100000 in
theorem add_zero128 (g o : Nat) (h : Int) (s : Eight) (half : Nat → Int) (fed n wh cap b p : Nat) (zs : List Int) (w : World) (hblk : blockOf h = 128) (HK : Hid (TK w g o h true s half fed)) (hn : Hid (zs.length = n)) (hfn : fed + n ≤ 4611686018427387904)
    (hv : Hid (View w (.slice (some ⟨b, p, none⟩) n cap) zs)) (hsep : Hid (Apart (.slice (some ⟨b, p, none⟩) n cap) g o 139)) (hT : Hid (Tables w)) (hg : 2 ≤ g) (h0 : Hid (fed % 128 = 0)) (hq : Hid (n = wh + n % 128)) :
    Calls Tryd.prog 87 #[.pointer (some ⟨g, o, none⟩), .slice (some ⟨b, p, none⟩) n cap] w fun e w' => e = .returned (.tuple #[]) ∧ Touch w w' g o 139 ∧ TK w' g o h true (TT true (fun i => (zs.take wh).getD i 0) s (wh / 128)) (fun i => if 0 ≤ i ∧ i < 0 + (zs.drop wh).length then (zs.drop wh).getD (i - 0) 0 else half i) (fed + n) := by
  have c0 := HK.out.hash
  have c138 := HK.out.fed
  have f138 : w.frozen? ⟨g, o + 138, none⟩ = false := (HK.out.there 138 (by omega)).2
  have hgw : g < w.heap.size := lt_of_cell c0
  have r0 : ((fed : Int) % 128) = 0 := by have := h0.out; omega
  have r1 : ((n : Int) - (n : Int) % 128) = (wh : Int) := by have := hq.out; omega
  have hwn : (wh : Int) ≤ (n : Int) := by have := hq.out; omega
  have hnc : n ≤ cap := by have := view_bounds hv.out; omega
  have hwc : (wh : Int) ≤ (cap : Int) := by omega
  have hw0 : (0 : Int) ≤ (wh : Int) := by omega
  have hcm : cap ≤ 9223372036854775807 := (view_bounds hv.out).2.2
  go_enter Tryd.func87, Tryd.ntmps87
  go_wp2_with (first | (go_at_call 83; refine (block_any _ _).mono ?_; rintro e1 w1 ⟨rfl, hw1⟩; obtain rfl := hw1.symm; rw [hblk]))
  have HT1 : Hid (Touch w (w.setCell ⟨g, o + 138, none⟩ (.int .u64 (fed + n))) g o 139) := (Touch.refl _ _ _ _).setCell _ _ (by omega) (by omega)
  have HK1 : Hid (TK (w.setCell ⟨g, o + 138, none⟩ (.int .u64 (fed + n))) g o h true s half (fed + n)) := HK.out.setFed _ _ (by simp)
  generalize w.setCell ⟨g, o + 138, none⟩ (.int .u64 (fed + n)) = w1 at HT1 HK1 ⊢
  clear c0 c138 f138
  have c1' : w1.cell? ⟨g, o + 1, none⟩ = some (.func (.func 85) #[] #[]) := HK1.out.fn
  have HA : Hid (∀ v, Sm w1 v → Calls Tryd.prog 85 #[.pointer (some ⟨g, o + 2, none⟩), .slice (some ⟨b, p, none⟩) wh cap] v fun e w' => e = .returned (.tuple #[]) ∧ Touch w w' g o 139 ∧ TK w' g o h true (TT true (fun i => (zs.take wh).getD i 0) s (wh / 128)) half (fed + n)) := by
    intro v hsm
    have hs1 := HT1.out.size
    have hl : (zs.take wh).length = wh := by have := hn.out; simp; omega
    refine (take_any true g (o + 2) _ (zs.take wh) s v (by rw [hsm.heap]; omega) (HK1.out.sm hsm).st (fun j hj => by have := (HK1.out.sm hsm).there (2 + j) (by omega); rw [← Nat.add_assoc] at this; exact this) (view_take (hsm.view (HT1.out.view hv.out hsep.out)) (by omega)) (apart_mono (apart_take hsep.out (by omega)) (by omega) (by omega)) (hsm.tables (hT.out.touch HT1.out hg)) hg).mono ?_
    rintro e w' ⟨rfl, ht', hr'⟩
    rw [hl] at hr'
    refine ⟨rfl, HT1.out.trans ((hsm.touch g o 139).trans (ht'.mono o 139 (by omega) (by omega))), (HK1.out.sm hsm).words ht' hr'⟩
  go_region_held3 (fun v => v.cell? ⟨g, o + 1, none⟩ = some (.func (.func 85) #[] #[])) (first | go_keep | exact hk2.fn) ((go_at_call 85; refine (HA.out w1.drew (Sm.refl w1).drew).mono ?_; rintro e2 w2 ⟨rfl, ht2, hk2⟩))
  have HT2 : Hid (Touch w w2 g o 139) := ht2
  have HK2 : Hid (TK w2 g o h true (TT true (fun i => (zs.take wh).getD i 0) s (wh / 128)) half (fed + n)) := hk2
  obtain ⟨X, hX⟩ : ∃ X, X = (if cap = wh then some (⟨b, p, none⟩ : Addr) else some ⟨b, p + wh, none⟩) := ⟨_, rfl⟩
  have hcp : (Builtin.copy_ #[23, 23] 3 #[.slice (some ⟨g, o + 10, none⟩) 128 128, .slice X (n - wh) (cap - wh)]).run Tryd.prog w2.drew = .ok (.int .i64 ((n - wh : Nat) : Int)) (w2.drew.setCells g (o + 10) (cellsU8 ((zs.drop wh).take (n - wh)))) := by
    have hv2 := view_drop (HT2.out.view hv.out hsep.out) (show wh ≤ n by omega)
    rw [← hX] at hv2
    refine copy_eq w2.drew g (o + 10) 128 128 X (n - wh) (cap - wh) (n - wh) (zs.drop wh) ?_ hv2 (fun j hj => ?_)
    · have := hq.out; omega
    · have := HK2.out.there (10 + j) (by have := hq.out; omega)
      rw [← Nat.add_assoc] at this
      exact this
  rw [eq_comm] at hX
  clear ht2 hk2 HA c1' HT1 HK1
  go_wp2
  go_region
  go_wp2
  go_end0
  have hl : (zs.drop wh).length = n - wh := by have := hn.out; simp; omega
  have hx := (HK2.out.sm (Sm.refl w2).drew).setHalf 0 (zs.drop wh) (by have := hq.out; omega)
  rw [List.take_of_length_le (by omega)]
  exact ⟨rfl, (HT2.out.drew).trans hx.2, hx.1⟩

set_option maxHeartbeats 3200000 in
set_option maxRecDepth 100000 in
theorem add_few128 (g o : Nat) (h : Int) (s : Eight) (half : Nat → Int) (fed n used cap b p : Nat) (zs : List Int) (w : World) (hblk : blockOf h = 128) (HK : Hid (TK w g o h true s half fed)) (hn : Hid (zs.length = n)) (hfn : fed + n ≤ 4611686018427387904)
    (hv : Hid (View w (.slice (some ⟨b, p, none⟩) n cap) zs)) (hsep : Hid (Apart (.slice (some ⟨b, p, none⟩) n cap) g o 139)) (hg : 2 ≤ g) (h0 : Hid (fed % 128 = used)) (hu0 : 0 < used) (hu1 : used + n < 128) :
    Calls Tryd.prog 87 #[.pointer (some ⟨g, o, none⟩), .slice (some ⟨b, p, none⟩) n cap] w fun e w' => e = .returned (.tuple #[]) ∧ Touch w w' g o 139 ∧ TK w' g o h true s (fun i => if used ≤ i ∧ i < used + zs.length then zs.getD (i - used) 0 else half i) (fed + n) := by
  have c0 := HK.out.hash
  have c138 := HK.out.fed
  have f138 : w.frozen? ⟨g, o + 138, none⟩ = false := (HK.out.there 138 (by omega)).2
  have hgw : g < w.heap.size := lt_of_cell c0
  have r0 : ((fed : Int) % 128) = (used : Int) := by have := h0.out; omega
  have hu2 : (0 : Int) < (used : Int) := by omega
  have hu3 : (used : Int) + (n : Int) < 128 := by omega
  have hu4 : (used : Int) ≤ 128 := by omega
  have HT1 : Hid (Touch w (w.setCell ⟨g, o + 138, none⟩ (.int .u64 (fed + n))) g o 139) := (Touch.refl _ _ _ _).setCell _ _ (by omega) (by omega)
  have HK1 : Hid (TK (w.setCell ⟨g, o + 138, none⟩ (.int .u64 (fed + n))) g o h true s half (fed + n)) := HK.out.setFed _ _ (by simp)
  have hcp : (Builtin.copy_ #[23, 23] 3 #[.slice (some ⟨g, o + 10 + used, none⟩) (128 - used) (128 - used), .slice (some ⟨b, p, none⟩) n cap]).run Tryd.prog (w.setCell ⟨g, o + 138, none⟩ (.int .u64 (fed + n))) = .ok (.int .i64 n) ((w.setCell ⟨g, o + 138, none⟩ (.int .u64 (fed + n))).setCells g (o + 10 + used) (cellsU8 (zs.take n))) := by
    refine copy_eq _ g (o + 10 + used) _ _ _ n cap n zs (by omega) (HT1.out.view hv.out hsep.out) (fun j hj => ?_)
    have := HK1.out.there (10 + used + j) (by omega)
    rw [← Nat.add_assoc, ← Nat.add_assoc] at this
    exact this
  go_enter Tryd.func87, Tryd.ntmps87
  go_wp2_with (first | (go_at_call 83; refine (block_any _ _).mono ?_; rintro e1 w1 ⟨rfl, hw1⟩; obtain rfl := hw1.symm; rw [hblk]))
  refine bodyPost_ret (results_none rfl _ _ _) rfl ?_
  have hl := hn.out
  rw [List.take_of_length_le (by omega)]
  have hx := HK1.out.setHalf used zs (by omega)
  exact ⟨rfl, HT1.out.trans hx.2, hx.1⟩

set_option maxHeartbeats 3200000 in
set_option maxRecDepth 100000 in
theorem add_many128 (g o : Nat) (h : Int) (s : Eight) (half : Nat → Int) (fed k n wh used cap b p : Nat) (zs : List Int) (w : World) (hblk : blockOf h = 128) (HK : Hid (TK w g o h true s half fed)) (hn : Hid (zs.length = k + n)) (hfn : fed + (k + n) ≤ 4611686018427387904)
    (hv : Hid (View w (.slice (some ⟨b, p, none⟩) (k + n) (k + cap)) zs)) (hsep : Hid (Apart (.slice (some ⟨b, p, none⟩) (k + n) (k + cap)) g o 139)) (hT : Hid (Tables w)) (hg : 2 ≤ g) (h0 : Hid (fed % 128 = used)) (hu0 : 0 < used) (hu1 : used + k = 128) (hq : Hid (n = wh + n % 128)) :
    Calls Tryd.prog 87 #[.pointer (some ⟨g, o, none⟩), .slice (some ⟨b, p, none⟩) (k + n) (k + cap)] w fun e w' => e = .returned (.tuple #[]) ∧ Touch w w' g o 139 ∧ ∃ s1, s1 = TT true (fun i => if used ≤ i ∧ i < used + (zs.take k).length then (zs.take k).getD (i - used) 0 else half i) s 1 ∧
      TK w' g o h true (TT true (fun i => ((zs.drop k).take wh).getD i 0) s1 (wh / 128)) (fun i => if 0 ≤ i ∧ i < 0 + ((zs.drop k).drop wh).length then ((zs.drop k).drop wh).getD (i - 0) 0 else (fun i => if used ≤ i ∧ i < used + (zs.take k).length then (zs.take k).getD (i - used) 0 else half i) i) (fed + (k + n)) := by
  have c0 := HK.out.hash
  have c138 := HK.out.fed
  have f138 : w.frozen? ⟨g, o + 138, none⟩ = false := (HK.out.there 138 (by omega)).2
  have hgw : g < w.heap.size := lt_of_cell c0
  have hnc : n ≤ cap := by have := view_bounds hv.out; omega
  have hcm : k + cap ≤ 9223372036854775807 := (view_bounds hv.out).2.2
  have r0 : ((fed : Int) % 128) = (used : Int) := by have := h0.out; omega
  have r1 : ((n : Int) - (n : Int) % 128) = (wh : Int) := by have := hq.out; omega
  have hwn : (wh : Int) ≤ (n : Int) := by have := hq.out; omega
  have hwc : (wh : Int) ≤ (cap : Int) := by omega
  have hw0 : (0 : Int) ≤ (wh : Int) := by omega
  have hu2 : (0 : Int) < (used : Int) := by omega
  have hu3 : ¬ ((used : Int) + (k : Int) < 128) := by omega
  have hu4 : (used : Int) ≤ 128 := by omega
  have hk0 : (0 : Int) ≤ (k : Int) := by omega
  have hk1 : (k : Int) ≤ (k : Int) + (n : Int) := by omega
  have HT1 : Hid (Touch w (w.setCell ⟨g, o + 138, none⟩ (.int .u64 (fed + (k + n)))) g o 139) := (Touch.refl _ _ _ _).setCell _ _ (by omega) (by omega)
  have HK1 : Hid (TK (w.setCell ⟨g, o + 138, none⟩ (.int .u64 (fed + (k + n)))) g o h true s half (fed + (k + n))) := HK.out.setFed _ _ (by simp)
  have hl : (zs.take k).length = k := by have := hn.out; simp; omega
  have hcp : (Builtin.copy_ #[23, 23] 3 #[.slice (some ⟨g, o + 10 + used, none⟩) (128 - used) (128 - used), .slice (some ⟨b, p, none⟩) (k + n) (k + cap)]).run Tryd.prog (w.setCell ⟨g, o + 138, none⟩ (.int .u64 (fed + (k + n)))) = .ok (.int .i64 k) ((w.setCell ⟨g, o + 138, none⟩ (.int .u64 (fed + (k + n)))).setCells g (o + 10 + used) (cellsU8 (zs.take k))) := by
    refine copy_eq _ g (o + 10 + used) _ _ _ (k + n) _ k zs (by omega) (HT1.out.view hv.out hsep.out) (fun j hj => ?_)
    have := HK1.out.there (10 + used + j) (by omega)
    rw [← Nat.add_assoc, ← Nat.add_assoc] at this
    exact this
  have hx := HK1.out.setHalf used (zs.take k) (by omega)
  have HT2 : Hid (Touch w ((w.setCell ⟨g, o + 138, none⟩ (.int .u64 (fed + (k + n)))).setCells g (o + 10 + used) (cellsU8 (zs.take k))) g o 139) := HT1.out.trans hx.2
  have HK2 : Hid (TK ((w.setCell ⟨g, o + 138, none⟩ (.int .u64 (fed + (k + n)))).setCells g (o + 10 + used) (cellsU8 (zs.take k))) g o h true s (fun i => if used ≤ i ∧ i < used + (zs.take k).length then (zs.take k).getD (i - used) 0 else half i) (fed + (k + n))) := hx.1
  clear hx
  obtain ⟨H2, hH2⟩ : ∃ H2, H2 = (fun i => if used ≤ i ∧ i < used + (zs.take k).length then (zs.take k).getD (i - used) 0 else half i) := ⟨_, rfl⟩
  rw [← hH2] at HK2 ⊢
  clear hH2
  have hf0 : (used : Int) < 128 → True := fun _ => trivial
  go_enter Tryd.func87, Tryd.ntmps87
  go_wp2_with (first | (go_at_call 83; refine (block_any _ _).mono ?_; rintro e1 w1 ⟨rfl, hw1⟩; obtain rfl := hw1.symm; rw [hblk]))
  generalize (w.setCell ⟨g, o + 138, none⟩ (.int .u64 (fed + (k + n)))).setCells g (o + 10 + used) (cellsU8 (zs.take k)) = w2 at HT2 HK2 hcp ⊢
  clear c0 c138 f138 hcp HT1 HK1
  have c1' : w2.cell? ⟨g, o + 1, none⟩ = some (.func (.func 85) #[] #[]) := HK2.out.fn
  have HA : Hid (∀ v, Sm w2 v → Calls Tryd.prog 85 #[.pointer (some ⟨g, o + 2, none⟩), .slice (some ⟨g, o + 10, none⟩) 128 128] v fun e w' => e = .returned (.tuple #[]) ∧ Touch w w' g o 139 ∧ TK w' g o h true (TT true H2 s 1) H2 (fed + (k + n))) := by
    intro v hsm
    have hs1 := HT2.out.size
    have hk' := HK2.out.sm hsm
    refine (take_any true g (o + 2) _ ((List.range 128).map H2) s v (by rw [hsm.heap]; omega) hk'.st (fun j hj => by have := hk'.there (2 + j) (by omega); rw [← Nat.add_assoc] at this; exact this) (view_half hk' 128 (by omega)) (fun _ _ _ _ e => by injection e with e1 e2 e3; injection e1 with e1; injection e1 with e4 e5; omega) (hsm.tables (hT.out.touch HT2.out hg)) hg).mono ?_
    rintro e w' ⟨rfl, ht', hr'⟩
    rw [show ((List.range 128).map H2).length / bsz true = 1 by simp [bsz], TT_congr true (B' := H2) s 1 (fun j hj => by simp [bsz] at hj; simp [List.getD, hj])] at hr'
    refine ⟨rfl, HT2.out.trans ((hsm.touch g o 139).trans (ht'.mono o 139 (by omega) (by omega))), hk'.words ht' hr'⟩
  go_region_held3 (fun v => v.cell? ⟨g, o + 1, none⟩ = some (.func (.func 85) #[] #[])) (first | go_keep | exact hk3.fn) ((go_at_call 85; refine (HA.out w2.drew (Sm.refl w2).drew).mono ?_; rintro e3 w3 ⟨rfl, ht3, hk3⟩))
  have HT3 : Hid (Touch w w3 g o 139) := ht3
  have HK3 : Hid (TK w3 g o h true (TT true H2 s 1) H2 (fed + (k + n))) := hk3
  clear ht3 hk3 HA c1' HT2 HK2
  obtain ⟨s1, hs1⟩ : ∃ s1, s1 = TT true H2 s 1 := ⟨_, rfl⟩
  rw [← hs1] at HK3
  have HE1 : Hid (s1 = TT true H2 s 1) := hs1
  clear hs1
  obtain ⟨P, hP⟩ : ∃ P, P = (if cap = 0 then p else p + k) := ⟨_, rfl⟩
  have hX : (if cap = 0 then some (⟨b, p, none⟩ : Addr) else some ⟨b, p + k, none⟩) = some ⟨b, P, none⟩ := by rw [hP]; split <;> rfl
  have HV3 : Hid (View w3 (.slice (some ⟨b, P, none⟩) n cap) (zs.drop k)) := view_drop2 (HT3.out.view hv.out hsep.out) hP
  have HS3 : Hid (Apart (.slice (some ⟨b, P, none⟩) n cap) g o 139) := apart_drop2 hsep.out hnc hP
  have hN3 : (zs.drop k).length = n := by have := hn.out; simp; omega
  have HN3 : Hid ((zs.drop k).length = n) := hN3
  clear hN3
  clear hP
  obtain ⟨ys, hys⟩ : ∃ ys, ys = zs.drop k := ⟨_, rfl⟩
  rw [← hys] at HV3 HN3
  have HE2 : Hid (ys = zs.drop k) := hys
  clear hys
  go_wp2
  have c1' : w3.cell? ⟨g, o + 1, none⟩ = some (.func (.func 85) #[] #[]) := HK3.out.fn
  have HA : Hid (∀ v, Sm w3 v → Calls Tryd.prog 85 #[.pointer (some ⟨g, o + 2, none⟩), .slice (some ⟨b, P, none⟩) wh cap] v fun e w' => e = .returned (.tuple #[]) ∧ Touch w3 w' g o 139 ∧ TK w' g o h true (TT true (fun i => (ys.take wh).getD i 0) s1 (wh / 128)) H2 (fed + (k + n))) := by
    intro v hsm
    have hs1 := HT3.out.size
    have hk' := HK3.out.sm hsm
    have hl : (ys.take wh).length = wh := by have := HN3.out; simp; omega
    refine (take_any true g (o + 2) _ (ys.take wh) s1 v (by rw [hsm.heap]; omega) hk'.st (fun j hj => by have := hk'.there (2 + j) (by omega); rw [← Nat.add_assoc] at this; exact this) (view_take (hsm.view HV3.out) (by omega)) (apart_mono (apart_take HS3.out (by omega)) (by omega) (by omega)) (hsm.tables (hT.out.touch HT3.out hg)) hg).mono ?_
    rintro e w' ⟨rfl, ht', hr'⟩
    rw [hl] at hr'
    refine ⟨rfl, (hsm.touch g o 139).trans (ht'.mono o 139 (by omega) (by omega)), hk'.words ht' hr'⟩
  go_region_held3 (fun v => v.cell? ⟨g, o + 1, none⟩ = some (.func (.func 85) #[] #[])) (first | go_keep | exact hk4.fn) ((go_at_call 85; refine (HA.out w3.drew (Sm.refl w3).drew).mono ?_; rintro e4 w4 ⟨rfl, ht4, hk4⟩))
  have HT4 : Hid (Touch w3 w4 g o 139) := ht4
  have HK4 : Hid (TK w4 g o h true (TT true (fun i => (ys.take wh).getD i 0) s1 (wh / 128)) H2 (fed + (k + n))) := hk4
  obtain ⟨X, hX2⟩ : ∃ X, X = (if cap = wh then some (⟨b, P, none⟩ : Addr) else some ⟨b, P + wh, none⟩) := ⟨_, rfl⟩
  have hcp : (Builtin.copy_ #[23, 23] 3 #[.slice (some ⟨g, o + 10, none⟩) 128 128, .slice X (n - wh) (cap - wh)]).run Tryd.prog w4.drew = .ok (.int .i64 ((n - wh : Nat) : Int)) (w4.drew.setCells g (o + 10) (cellsU8 ((ys.drop wh).take (n - wh)))) := by
    have hv2 := view_drop (HT4.out.view HV3.out HS3.out) (show wh ≤ n by omega)
    rw [← hX2] at hv2
    refine copy_eq w4.drew g (o + 10) 128 128 X (n - wh) (cap - wh) (n - wh) (ys.drop wh) ?_ hv2 (fun j hj => ?_)
    · have := hq.out; omega
    · have := HK4.out.there (10 + j) (by have := hq.out; omega)
      rw [← Nat.add_assoc] at this
      exact this
  rw [eq_comm] at hX2
  clear ht4 hk4 HA c1'
  go_wp2
  go_region
  go_wp2
  go_end0
  have hl : (ys.drop wh).length = n - wh := by have := HN3.out; simp; omega
  have hx := (HK4.out.sm (Sm.refl w4).drew).setHalf 0 (ys.drop wh) (by have := hq.out; omega)
  rw [List.take_of_length_le (by omega)]
  have e1 := HE1.out
  have e2 := HE2.out
  subst e1 e2
  exact ⟨rfl, (HT3.out.trans HT4.out.drew).trans hx.2, _, rfl, hx.1⟩
end Go.Proofs.YtinmhgackihakaaDoor
namespace Go.Proofs.YtinmhgackihakaaDoor
open Go.RowKit
set_option linter.unusedVariables false
set_option linter.unusedSimpArgs false
theorem copy_zero (w : World) (x y : Option Addr) (dl dc c : Nat) : (Builtin.copy_ #[23, 23] 3 #[.slice x dl dc, .slice y 0 c]).run Tryd.prog w = .ok (.int .i64 0) w :=
  run_copy_none (P := Tryd.prog) w 23 23 3 5 x y dl dc 0 c Tryd.underlying23 (by kernel_rfl) (by show min _ _ = 0; omega)

set_option maxHeartbeats 3200000 in
set_option maxRecDepth 100000 in
theorem add_empty64 (g o : Nat) (h : Int) (s : Eight) (half : Nat → Int) (fed cap : Nat) (a : Option Addr) (w : World) (hblk : blockOf h = 64) (HK : Hid (TK w g o h false s half fed)) (hfn : fed ≤ 4611686018427387904) (hcm : cap ≤ 9223372036854775807) (ha : a = none → cap = 0) :
    Calls Tryd.prog 87 #[.pointer (some ⟨g, o, none⟩), .slice a 0 cap] w fun e w' => e = .returned (.tuple #[]) ∧ Touch w w' g o 139 ∧ TK w' g o h false s half fed := by
  have c0 := HK.out.hash
  have c138 := HK.out.fed
  have f138 : w.frozen? ⟨g, o + 138, none⟩ = false := (HK.out.there 138 (by omega)).2
  have hgw : g < w.heap.size := lt_of_cell c0
  have HT1 : Hid (Touch w (w.setCell ⟨g, o + 138, none⟩ (.int .u64 fed)) g o 139) := (Touch.refl _ _ _ _).setCell _ _ (by omega) (by omega)
  have HK1 : Hid (TK (w.setCell ⟨g, o + 138, none⟩ (.int .u64 fed)) g o h false s half fed) := HK.out.setFed _ _ rfl
  by_cases hu : fed % 64 = 0
  · have r0 : ((fed : Int) % 64) = 0 := by omega
    go_enter Tryd.func87, Tryd.ntmps87
    go_wp2_with (first | (go_at_call 83; refine (block_any _ _).mono ?_; rintro e1 w1 ⟨rfl, hw1⟩; obtain rfl := hw1.symm; rw [hblk]))
    generalize w.setCell ⟨g, o + 138, none⟩ (.int .u64 fed) = w1 at HT1 HK1 ⊢
    clear c0 c138 f138
    have c1' : w1.cell? ⟨g, o + 1, none⟩ = some (.func (.func 84) #[] #[]) := HK1.out.fn
    have HA : Hid (∀ v, Sm w1 v → Calls Tryd.prog 84 #[.pointer (some ⟨g, o + 2, none⟩), .slice a 0 cap] v fun e w' => e = .returned (.tuple #[]) ∧ Touch w w' g o 139 ∧ TK w' g o h false s half fed) := by
      intro v hsm
      have hs1 := HT1.out.size
      have hgv : g < v.heap.size := by rw [hsm.heap]; omega
      refine (narrow_zero _ a cap v).mono ?_
      rintro e w' ⟨rfl, hb⟩
      have ht := (Touch.refl v g (o + 2) 8).below hb hgv
      exact ⟨rfl, HT1.out.trans ((hsm.touch g o 139).trans ((Touch.refl v g o 139).below hb hgv)), (HK1.out.sm hsm).words ht (range_below (HK1.out.sm hsm).st hb hgv)⟩
    go_region_held3 (fun v => v.cell? ⟨g, o + 1, none⟩ = some (.func (.func 84) #[] #[])) (first | go_keep | exact hk2.fn) ((go_at_call 84; refine (HA.out w1.drew (Sm.refl w1).drew).mono ?_; rintro e2 w2 ⟨rfl, ht2, hk2⟩))
    have HT2 : Hid (Touch w w2 g o 139) := ht2
    have HK2 : Hid (TK w2 g o h false s half fed) := hk2
    have hcp : ∀ x, (Builtin.copy_ #[23, 23] 3 #[.slice (some ⟨g, o + 10, none⟩) 64 128, .slice x 0 cap]).run Tryd.prog w2.drew = .ok (.int .i64 0) w2.drew := fun x => copy_zero w2.drew _ _ _ _ _
    clear ht2 hk2 HA c1' HT1 HK1
    go_wp2
    go_region
    go_wp2
    go_end0
    exact ⟨rfl, HT2.out.drew, HK2.out.sm (Sm.refl w2).drew⟩
  · obtain ⟨used, hus⟩ : ∃ u, u = fed % 64 := ⟨_, rfl⟩
    have r0 : ((fed : Int) % 64) = (used : Int) := by omega
    have hu2 : (0 : Int) < (used : Int) := by omega
    have hu3 : (used : Int) < 64 := by omega
    have hu4 : (used : Int) ≤ 64 := by omega
    have hcp : ∀ w, (Builtin.copy_ #[23, 23] 3 #[.slice (some ⟨g, o + 10 + used, none⟩) (64 - used) (128 - used), .slice a 0 cap]).run Tryd.prog w = .ok (.int .i64 0) w := fun w => copy_zero w _ _ _ _ _
    clear hus hu
    go_enter Tryd.func87, Tryd.ntmps87
    go_wp2_with (first | (go_at_call 83; refine (block_any _ _).mono ?_; rintro e1 w1 ⟨rfl, hw1⟩; obtain rfl := hw1.symm; rw [hblk]))
    refine bodyPost_ret (results_none rfl _ _ _) rfl ?_
    exact ⟨rfl, HT1.out, HK1.out⟩

set_option maxHeartbeats 3200000 in
set_option maxRecDepth 100000 in
theorem add_empty128 (g o : Nat) (h : Int) (s : Eight) (half : Nat → Int) (fed cap : Nat) (a : Option Addr) (w : World) (hblk : blockOf h = 128) (HK : Hid (TK w g o h true s half fed)) (hfn : fed ≤ 4611686018427387904) (hcm : cap ≤ 9223372036854775807) (ha : a = none → cap = 0) :
    Calls Tryd.prog 87 #[.pointer (some ⟨g, o, none⟩), .slice a 0 cap] w fun e w' => e = .returned (.tuple #[]) ∧ Touch w w' g o 139 ∧ TK w' g o h true s half fed := by
  have c0 := HK.out.hash
  have c138 := HK.out.fed
  have f138 : w.frozen? ⟨g, o + 138, none⟩ = false := (HK.out.there 138 (by omega)).2
  have hgw : g < w.heap.size := lt_of_cell c0
  have HT1 : Hid (Touch w (w.setCell ⟨g, o + 138, none⟩ (.int .u64 fed)) g o 139) := (Touch.refl _ _ _ _).setCell _ _ (by omega) (by omega)
  have HK1 : Hid (TK (w.setCell ⟨g, o + 138, none⟩ (.int .u64 fed)) g o h true s half fed) := HK.out.setFed _ _ rfl
  by_cases hu : fed % 128 = 0
  · have r0 : ((fed : Int) % 128) = 0 := by omega
    go_enter Tryd.func87, Tryd.ntmps87
    go_wp2_with (first | (go_at_call 83; refine (block_any _ _).mono ?_; rintro e1 w1 ⟨rfl, hw1⟩; obtain rfl := hw1.symm; rw [hblk]))
    generalize w.setCell ⟨g, o + 138, none⟩ (.int .u64 fed) = w1 at HT1 HK1 ⊢
    clear c0 c138 f138
    have c1' : w1.cell? ⟨g, o + 1, none⟩ = some (.func (.func 85) #[] #[]) := HK1.out.fn
    have HA : Hid (∀ v, Sm w1 v → Calls Tryd.prog 85 #[.pointer (some ⟨g, o + 2, none⟩), .slice a 0 cap] v fun e w' => e = .returned (.tuple #[]) ∧ Touch w w' g o 139 ∧ TK w' g o h true s half fed) := by
      intro v hsm
      have hs1 := HT1.out.size
      have hgv : g < v.heap.size := by rw [hsm.heap]; omega
      refine (wide_zero _ a cap v).mono ?_
      rintro e w' ⟨rfl, hb⟩
      have ht := (Touch.refl v g (o + 2) 8).below hb hgv
      exact ⟨rfl, HT1.out.trans ((hsm.touch g o 139).trans ((Touch.refl v g o 139).below hb hgv)), (HK1.out.sm hsm).words ht (range_below (HK1.out.sm hsm).st hb hgv)⟩
    go_region_held3 (fun v => v.cell? ⟨g, o + 1, none⟩ = some (.func (.func 85) #[] #[])) (first | go_keep | exact hk2.fn) ((go_at_call 85; refine (HA.out w1.drew (Sm.refl w1).drew).mono ?_; rintro e2 w2 ⟨rfl, ht2, hk2⟩))
    have HT2 : Hid (Touch w w2 g o 139) := ht2
    have HK2 : Hid (TK w2 g o h true s half fed) := hk2
    have hcp : ∀ x, (Builtin.copy_ #[23, 23] 3 #[.slice (some ⟨g, o + 10, none⟩) 128 128, .slice x 0 cap]).run Tryd.prog w2.drew = .ok (.int .i64 0) w2.drew := fun x => copy_zero w2.drew _ _ _ _ _
    clear ht2 hk2 HA c1' HT1 HK1
    go_wp2
    go_region
    go_wp2
    go_end0
    exact ⟨rfl, HT2.out.drew, HK2.out.sm (Sm.refl w2).drew⟩
  · obtain ⟨used, hus⟩ : ∃ u, u = fed % 128 := ⟨_, rfl⟩
    have r0 : ((fed : Int) % 128) = (used : Int) := by omega
    have hu2 : (0 : Int) < (used : Int) := by omega
    have hu3 : (used : Int) < 128 := by omega
    have hu4 : (used : Int) ≤ 128 := by omega
    have hcp : ∀ w, (Builtin.copy_ #[23, 23] 3 #[.slice (some ⟨g, o + 10 + used, none⟩) (128 - used) (128 - used), .slice a 0 cap]).run Tryd.prog w = .ok (.int .i64 0) w := fun w => copy_zero w _ _ _ _ _
    clear hus hu
    go_enter Tryd.func87, Tryd.ntmps87
    go_wp2_with (first | (go_at_call 83; refine (block_any _ _).mono ?_; rintro e1 w1 ⟨rfl, hw1⟩; obtain rfl := hw1.symm; rw [hblk]))
    refine bodyPost_ret (results_none rfl _ _ _) rfl ?_
    exact ⟨rfl, HT1.out, HK1.out⟩
end Go.Proofs.YtinmhgackihakaaDoor
namespace Go.Proofs.YtinmhgackihakaaDoor
open Go.RowKit
set_option linter.unusedVariables false
set_option linter.unusedSimpArgs false

/-- A list's numbers, as a function. -/
def fnz (zs : List Int) (i : Nat) : Int := zs.getD i 0
theorem fnz_left (zs ys : List Int) (i : Nat) (h : i < zs.length) : fnz (zs ++ ys) i = fnz zs i := by
  simp [fnz, List.getD, List.getElem?_append_left h]
theorem fnz_right (zs ys : List Int) (i : Nat) : fnz (zs ++ ys) (zs.length + i) = fnz ys i := by
  simp [fnz, List.getD, List.getElem?_append_right (Nat.le_add_right _ _)]
theorem fnz_take (ys : List Int) (k i : Nat) (h : i < k) : fnz (ys.take k) i = fnz ys i := by
  simp [fnz, List.getD, List.getElem?_take, h]
theorem fnz_drop (ys : List Int) (k i : Nat) : fnz (ys.drop k) i = fnz ys (k + i) := by
  simp [fnz, List.getD]

/-- A taken that began with the words s0 (f0 bytes were counted ahead) and was fed zs. -/
def Rep (w : World) (g o : Nat) (h : Int) (wd : Bool) (s0 : Eight) (f0 : Nat) (zs : List Int) : Prop :=
  ∃ half, TK w g o h wd (TT wd (fnz zs) s0 (zs.length / bsz wd)) half (f0 + zs.length) ∧ (∀ i, i < zs.length % bsz wd → half i = fnz zs (bsz wd * (zs.length / bsz wd) + i)) ∧ f0 % bsz wd = 0

theorem add_few_any (wd : Bool) (g o : Nat) (h : Int) (s : Eight) (half : Nat → Int) (fed n used cap b p : Nat) (zs : List Int) (w : World) (hblk : blockOf h = bsz wd) (HK : TK w g o h wd s half fed) (hn : zs.length = n) (hfn : fed + n ≤ 4611686018427387904)
    (hv : View w (.slice (some ⟨b, p, none⟩) n cap) zs) (hsep : Apart (.slice (some ⟨b, p, none⟩) n cap) g o 139) (hg : 2 ≤ g) (h0 : fed % bsz wd = used) (hu0 : 0 < used) (hu1 : used + n < bsz wd) :
    Calls Tryd.prog 87 #[.pointer (some ⟨g, o, none⟩), .slice (some ⟨b, p, none⟩) n cap] w fun e w' => e = .returned (.tuple #[]) ∧ Touch w w' g o 139 ∧ TK w' g o h wd s (fun i => if used ≤ i ∧ i < used + zs.length then zs.getD (i - used) 0 else half i) (fed + n) := by
  cases wd
  · exact add_few64 g o h s half fed n used cap b p zs w hblk HK hn hfn hv hsep hg h0 hu0 hu1
  · exact add_few128 g o h s half fed n used cap b p zs w hblk HK hn hfn hv hsep hg h0 hu0 hu1
theorem add_zero_any (wd : Bool) (g o : Nat) (h : Int) (s : Eight) (half : Nat → Int) (fed n wh cap b p : Nat) (zs : List Int) (w : World) (hblk : blockOf h = bsz wd) (HK : TK w g o h wd s half fed) (hn : zs.length = n) (hfn : fed + n ≤ 4611686018427387904)
    (hv : View w (.slice (some ⟨b, p, none⟩) n cap) zs) (hsep : Apart (.slice (some ⟨b, p, none⟩) n cap) g o 139) (hT : Tables w) (hg : 2 ≤ g) (h0 : fed % bsz wd = 0) (hq : n = wh + n % bsz wd) :
    Calls Tryd.prog 87 #[.pointer (some ⟨g, o, none⟩), .slice (some ⟨b, p, none⟩) n cap] w fun e w' => e = .returned (.tuple #[]) ∧ Touch w w' g o 139 ∧ TK w' g o h wd (TT wd (fnz (zs.take wh)) s (wh / bsz wd)) (fun i => if 0 ≤ i ∧ i < 0 + (zs.drop wh).length then (zs.drop wh).getD (i - 0) 0 else half i) (fed + n) := by
  cases wd
  · exact add_zero64 g o h s half fed n wh cap b p zs w hblk HK hn hfn hv hsep hT hg h0 hq
  · exact add_zero128 g o h s half fed n wh cap b p zs w hblk HK hn hfn hv hsep hT hg h0 hq
theorem add_many_any (wd : Bool) (g o : Nat) (h : Int) (s : Eight) (half : Nat → Int) (fed k n wh used cap b p : Nat) (zs : List Int) (w : World) (hblk : blockOf h = bsz wd) (HK : TK w g o h wd s half fed) (hn : zs.length = k + n) (hfn : fed + (k + n) ≤ 4611686018427387904)
    (hv : View w (.slice (some ⟨b, p, none⟩) (k + n) (k + cap)) zs) (hsep : Apart (.slice (some ⟨b, p, none⟩) (k + n) (k + cap)) g o 139) (hT : Tables w) (hg : 2 ≤ g) (h0 : fed % bsz wd = used) (hu0 : 0 < used) (hu1 : used + k = bsz wd) (hq : n = wh + n % bsz wd) :
    Calls Tryd.prog 87 #[.pointer (some ⟨g, o, none⟩), .slice (some ⟨b, p, none⟩) (k + n) (k + cap)] w fun e w' => e = .returned (.tuple #[]) ∧ Touch w w' g o 139 ∧ ∃ s1, s1 = TT wd (fun i => if used ≤ i ∧ i < used + (zs.take k).length then (zs.take k).getD (i - used) 0 else half i) s 1 ∧
      TK w' g o h wd (TT wd (fnz ((zs.drop k).take wh)) s1 (wh / bsz wd)) (fun i => if 0 ≤ i ∧ i < 0 + ((zs.drop k).drop wh).length then ((zs.drop k).drop wh).getD (i - 0) 0 else (fun i => if used ≤ i ∧ i < used + (zs.take k).length then (zs.take k).getD (i - used) 0 else half i) i) (fed + (k + n)) := by
  cases wd
  · exact add_many64 g o h s half fed k n wh used cap b p zs w hblk HK hn hfn hv hsep hT hg h0 hu0 hu1 hq
  · exact add_many128 g o h s half fed k n wh used cap b p zs w hblk HK hn hfn hv hsep hT hg h0 hu0 hu1 hq
theorem add_empty_any (wd : Bool) (g o : Nat) (h : Int) (s : Eight) (half : Nat → Int) (fed cap : Nat) (a : Option Addr) (w : World) (hblk : blockOf h = bsz wd) (HK : TK w g o h wd s half fed) (hfn : fed ≤ 4611686018427387904) (hcm : cap ≤ 9223372036854775807) (ha : a = none → cap = 0) :
    Calls Tryd.prog 87 #[.pointer (some ⟨g, o, none⟩), .slice a 0 cap] w fun e w' => e = .returned (.tuple #[]) ∧ Touch w w' g o 139 ∧ TK w' g o h wd s half fed := by
  cases wd
  · exact add_empty64 g o h s half fed cap a w hblk HK hfn hcm ha
  · exact add_empty128 g o h s half fed cap a w hblk HK hfn hcm ha

/-- taken.add: what was fed before, and behind it the new bytes. -/
theorem add_rep (wd : Bool) (g o : Nat) (h : Int) (s0 : Eight) (f0 : Nat) (zs ys : List Int) (v : Value) (w : World) (hblk : blockOf h = bsz wd) (hr : Rep w g o h wd s0 f0 zs) (hv : View w v ys) (hap : Apart v g o 139) (hT : Tables w) (hg : 2 ≤ g) (hfn : f0 + zs.length + ys.length ≤ 4611686018427387904) :
    Calls Tryd.prog 87 #[.pointer (some ⟨g, o, none⟩), v] w fun e w' => e = .returned (.tuple #[]) ∧ Touch w w' g o 139 ∧ Rep w' g o h wd s0 f0 (zs ++ ys) := by
  obtain ⟨half, hk, hh, hf⟩ := hr
  have hb := bsz_pos wd
  have hvv := hv
  obtain ⟨a, cap, rfl, h1, h2, h3, h4⟩ := hv
  by_cases hys : ys = []
  · subst hys
    refine (add_empty_any wd g o h _ half _ cap a w hblk hk (by simpa using hfn) (by unfold maxLen at h2; omega) h3).mono ?_
    rintro e w' ⟨rfl, ht, hk'⟩
    rw [List.append_nil]
    exact ⟨rfl, ht, half, hk', hh, hf⟩
  have hL : (zs ++ ys).length = zs.length + ys.length := by simp
  generalize hB : bsz wd = B at *
  generalize hn : ys.length = n at *
  generalize hl : zs.length = l at *
  rcases h4 with rfl | ⟨b, p, rfl, hc⟩
  · exact absurd rfl hys
  have hZl : ∀ i, i < l → fnz (zs ++ ys) i = fnz zs i := fun i hi => fnz_left zs ys i (by omega)
  have hZr : ∀ i, fnz (zs ++ ys) (l + i) = fnz ys i := fun i => by rw [← hl]; exact fnz_right zs ys i
  have hlq : l = B * (l / B) + l % B := (Nat.div_add_mod l B).symm
  have hused : (f0 + l) % B = l % B := by
    obtain ⟨c, hc⟩ : ∃ c, f0 = B * c := ⟨f0 / B, by have := Nat.div_add_mod f0 B; omega⟩
    rw [hc, Nat.mul_add_mod]
  have hTq : ∀ s, TT wd (fnz (zs ++ ys)) s (l / B) = TT wd (fnz zs) s (l / B) := fun s => TT_congr wd s _ fun j hj => hZl j (by rw [hB] at hj; omega)
  have hul : l % B < B := Nat.mod_lt _ hb
  by_cases hu : l % B = 0
  · have hnq : n = B * (n / B) + n % B := (Nat.div_add_mod n B).symm
    refine (add_zero_any wd g o h _ half (f0 + l) n (B * (n / B)) cap b p ys w (by rw [hB]; exact hblk) hk hn (by omega) hvv hap hT hg (by rw [hB, hused, hu]) (by rw [hB]; exact hnq)).mono ?_
    rintro e w' ⟨rfl, ht, hk'⟩
    have e1 : (l + n) / B = l / B + n / B := by
      rw [hlq, hu, Nat.add_zero, Nat.mul_add_div hb, Nat.mul_div_cancel_left _ hb]
    have e2 : (l + n) % B = n % B := by
      rw [hlq, hu, Nat.add_zero, Nat.mul_add_mod]
    refine ⟨rfl, ht, (fun i => if 0 ≤ i ∧ i < 0 + (ys.drop (B * (n / B))).length then (ys.drop (B * (n / B))).getD (i - 0) 0 else half i), ?_, ?_, by rw [hB]; exact hf⟩
    · rw [hL, hB, e1, TT_add wd _ s0 (l / B) (n / B), hTq]
      rw [hB, Nat.mul_div_cancel_left _ hb, TT_congr wd (B' := fun k => fnz (zs ++ ys) (bsz wd * (l / B) + k)) _ (n / B) (fun j hj => by
        rw [hB] at hj ⊢
        rw [fnz_take ys _ j (by omega), show B * (l / B) + j = l + j by omega, hZr])] at hk'
      rw [show f0 + (l + n) = f0 + l + n by omega]
      exact hk'
    · intro i hi
      dsimp only
      rw [hL, hB] at hi ⊢
      rw [e2] at hi
      rw [e1]
      have hdl : (ys.drop (B * (n / B))).length = n % B := by simp; omega
      rw [if_pos ⟨Nat.zero_le _, by omega⟩]
      have := fnz_drop ys (B * (n / B)) i
      rw [show B * (l / B + n / B) + i = l + (B * (n / B) + i) by rw [Nat.mul_add]; omega, hZr, ← this]
      rfl
  · by_cases hfew : l % B + n < B
    · refine (add_few_any wd g o h _ half (f0 + l) n (l % B) cap b p ys w (by rw [hB]; exact hblk) hk hn (by omega) hvv hap hg (by rw [hB, hused]) (by omega) (by rw [hB]; exact hfew)).mono ?_
      rintro e w' ⟨rfl, ht, hk'⟩
      have e1 : (l + n) / B = l / B := by
        have : l + n = B * (l / B) + (l % B + n) := by omega
        rw [this, Nat.mul_add_div hb, Nat.div_eq_of_lt hfew, Nat.add_zero]
      have e2 : (l + n) % B = l % B + n := by
        have : l + n = B * (l / B) + (l % B + n) := by omega
        rw [this, Nat.mul_add_mod, Nat.mod_eq_of_lt hfew]
      refine ⟨rfl, ht, (fun i => if l % B ≤ i ∧ i < l % B + ys.length then ys.getD (i - l % B) 0 else half i), ?_, ?_, by rw [hB]; exact hf⟩
      · rw [hL, hB, e1, hTq, show f0 + (l + n) = f0 + l + n by omega]
        exact hk'
      · intro i hi
        dsimp only
        rw [hL, hB] at hi ⊢
        rw [e2] at hi
        rw [e1]
        by_cases hil : l % B ≤ i
        · rw [if_pos ⟨hil, by omega⟩, show B * (l / B) + i = l + (i - l % B) by omega, hZr]
          rfl
        · rw [if_neg (by omega), hh i (by omega), hZl _ (by omega)]
    · obtain ⟨k, hk0⟩ : ∃ k, k = B - l % B := ⟨_, rfl⟩
      obtain ⟨m, hm⟩ : ∃ m, n = k + m := ⟨n - k, by omega⟩
      obtain ⟨c, hcc⟩ : ∃ c, cap = k + c := ⟨cap - k, by omega⟩
      subst hm hcc
      have hnq : m = B * (m / B) + m % B := (Nat.div_add_mod m B).symm
      refine (add_many_any wd g o h _ half (f0 + l) k m (B * (m / B)) (l % B) c b p ys w (by rw [hB]; exact hblk) hk hn (by omega) hvv hap hT hg (by rw [hB, hused]) (by omega) (by rw [hB]; omega) (by rw [hB]; exact hnq)).mono ?_
      rintro e w' ⟨rfl, ht, s1, hs1, hk'⟩
      have e1 : (l + (k + m)) / B = l / B + 1 + m / B := by
        have : l + (k + m) = B * (l / B + 1) + m := by rw [Nat.mul_add]; omega
        rw [this, Nat.mul_add_div hb]
      have e2 : (l + (k + m)) % B = m % B := by
        have : l + (k + m) = B * (l / B + 1) + m := by rw [Nat.mul_add]; omega
        rw [this, Nat.mul_add_mod]
      have hlt : (ys.take k).length = k := by simp; omega
      have hs1' : s1 = TT wd (fnz (zs ++ ys)) s0 (l / B + 1) := by
        rw [hs1, TT_add wd _ s0 (l / B) 1, hTq]
        refine TT_congr wd _ 1 fun j hj => ?_
        rw [hB] at hj ⊢
        by_cases hjl : l % B ≤ j
        · rw [if_pos ⟨hjl, by omega⟩, show B * (l / B) + j = l + (j - l % B) by omega, hZr]
          exact fnz_take ys k _ (by omega)
        · rw [if_neg (by omega), hh j (by omega), hZl _ (by omega)]
      refine ⟨rfl, ht, (fun i => if 0 ≤ i ∧ i < 0 + ((ys.drop k).drop (B * (m / B))).length then ((ys.drop k).drop (B * (m / B))).getD (i - 0) 0 else (fun i => if l % B ≤ i ∧ i < l % B + (ys.take k).length then (ys.take k).getD (i - l % B) 0 else half i) i), ?_, ?_, by rw [hB]; exact hf⟩
      · rw [hL, hB, e1, TT_add wd _ s0 (l / B + 1) (m / B), ← hs1']
        rw [hB, Nat.mul_div_cancel_left _ hb, TT_congr wd (B' := fun k => fnz (zs ++ ys) (bsz wd * (l / B + 1) + k)) _ (m / B) (fun j hj => by
          rw [hB] at hj ⊢
          rw [fnz_take _ _ j (by omega), fnz_drop, show B * (l / B + 1) + j = l + (k + j) by rw [Nat.mul_add]; omega, hZr])] at hk'
        rw [show f0 + (l + (k + m)) = f0 + l + (k + m) by omega]
        exact hk'
      · intro i hi
        dsimp only
        rw [hL, hB] at hi ⊢
        rw [e2] at hi
        rw [e1]
        have hdl : ((ys.drop k).drop (B * (m / B))).length = m % B := by simp; omega
        rw [if_pos ⟨Nat.zero_le _, by omega⟩]
        have h5 := (fnz_drop (ys.drop k) (B * (m / B)) i).trans (fnz_drop ys k (B * (m / B) + i))
        rw [show B * (l / B + 1 + m / B) + i = l + (k + (B * (m / B) + i)) by rw [Nat.mul_add, Nat.mul_add]; omega, hZr, ← h5]
        rfl
end Go.Proofs.YtinmhgackihakaaDoor
namespace Go.Proofs.YtinmhgackihakaaDoor
open Go.RowKit
set_option linter.unusedVariables false
set_option linter.unusedSimpArgs false

theorem size75 : (Tryd.prog.info? 123).map (·.size) = some 64 := by kernel_rfl
/-- Byte number k of the words, of ws bytes each. -/
def spellAt (ws : Nat) (s : Eight) (k : Nat) : Int := if k < 8 * ws then fnz s.list (k / ws) / 256 ^ (ws - 1 - k % ws) % 256 else 0
def spellCells (ws : Nat) (s : Eight) : List Value := (List.range 64).map fun k => .int .u8 (spellAt ws s k)
theorem spellCells_length (ws : Nat) (s : Eight) : (spellCells ws s).length = 64 := by simp [spellCells]
theorem spellArr_size (ws : Nat) (s : Eight) : (spellCells ws s).toArray.size = 64 := by simp [spellCells]
theorem spellCells_one (ws : Nat) (s : Eight) : (spellCells ws s).toArray.all (·.oneCell') = true := all_oneCell_toArray (by
  intro v hv
  simp only [spellCells, List.mem_map] at hv
  obtain ⟨z, _, rfl⟩ := hv
  rfl)
theorem set_cell {w : World} {b k N : Nat} {F G : Nat → Int} (h : ∀ j, j < N → w.cell? ⟨b, j, none⟩ = some (.int .u8 (F j))) (hk : k < N) (u : Int) (hu : u = G k) (hFG : ∀ j, j < N → j ≠ k → F j = G j) :
    ∀ j, j < N → (w.setCell ⟨b, k, none⟩ (.int .u8 u)).cell? ⟨b, j, none⟩ = some (.int .u8 (G j)) := by
  intro j hj
  by_cases e : j = k
  · subst e
    rw [World.cell?_setCell_same' _ _ _ (by rw [h j hj]; rfl), hu]
  · have := World.cell?_setCells_out b [.int .u8 u] k w ⟨b, j, none⟩ (fun _ _ => by show j < k ∨ k + 1 ≤ j; omega)
    rw [← hFG j hj e, ← h j hj]
    exact this
theorem two_there (w : World) (C D : Array Value) (t u : TypeId) (n : Nat) (hn : n ≤ D.size) : ((w.alloc (.cells C t)).alloc (.cells D u)).there (w.heap.size + 1) 0 n := by
  have := there_new (w.alloc (.cells C t)) D u n hn
  simpa using this
theorem two_cell (w : World) (C D : Array Value) (t u : TypeId) (k : Nat) : ((w.alloc (.cells C t)).alloc (.cells D u)).cell? ⟨w.heap.size + 1, k, none⟩ = D[k]? :=
  World.cell?_alloc_at D u _ _ (by simp)
theorem zero_lit (n k : Nat) (hk : k < n) : (List.replicate n (Value.int .u8 0)).toArray[k]? = some (.int .u8 0) := by simp [hk]
theorem results_cell1D {fn : Func} {p : Tmp} {ty : TypeId} (h : fn.results = #[.cell p ty]) (tmps : Array Value) (P : Program) (w : World) :
    (results fn tmps).run P w = ((asAddr (tmps.getD p undef)).run P w).andThen fun a w₁ => (loadVar ty a).run P w₁ := by
  simp only [results, h]
  simp [Sem.run_bind, Result.andThen]
theorem pow_step (x : Int) (e : Nat) : x / 256 ^ e / 256 = x / 256 ^ (e + 1) := by
  rw [Int.pow_succ, Int.ediv_ediv_of_nonneg]
  exact Int.pow_nonneg (by omega)

set_option maxHeartbeats 3200000 in
set_option maxRecDepth 100000 in
theorem spell64 (g o : Nat) (h : Int) (s : Eight) (half : Nat → Int) (fed : Nat) (w : World) (hblk : blockOf h = 64) (HK : Hid (TK w g o h false s half fed)) :
    Calls Tryd.prog 88 #[.pointer (some ⟨g, o, none⟩)] w fun e w' => e = .returned (.agg (spellCells 4 s).toArray) ∧ Below w.heap.size w w' := by
  have c0 := HK.out.hash
  have c2 : w.cell? ⟨g, o + 2, none⟩ = some (.int .u64 s.a) := HK.out.st 0 _ rfl
  have c3 : w.cell? ⟨g, o + 2 + 1, none⟩ = some (.int .u64 s.b) := HK.out.st 1 _ rfl
  have c4 : w.cell? ⟨g, o + 2 + 2, none⟩ = some (.int .u64 s.c) := HK.out.st 2 _ rfl
  have c5 : w.cell? ⟨g, o + 2 + 3, none⟩ = some (.int .u64 s.d) := HK.out.st 3 _ rfl
  have c6 : w.cell? ⟨g, o + 2 + 4, none⟩ = some (.int .u64 s.e) := HK.out.st 4 _ rfl
  have c7 : w.cell? ⟨g, o + 2 + 5, none⟩ = some (.int .u64 s.f) := HK.out.st 5 _ rfl
  have c8 : w.cell? ⟨g, o + 2 + 6, none⟩ = some (.int .u64 s.g) := HK.out.st 6 _ rfl
  have c9 : w.cell? ⟨g, o + 2 + 7, none⟩ = some (.int .u64 s.k) := HK.out.st 7 _ rfl
  have hgw : g < w.heap.size := lt_of_cell c0
  go_enter Tryd.func88, Tryd.ntmps88
  go_wp2_with (first | (go_at_call 83; refine (block_any _ _).mono ?_; rintro e1 w1 ⟨rfl, hw1⟩; obtain rfl := hw1.symm; rw [hblk]))
  clear c2 c3 c4 c5 c6 c7 c8 c9 c0
  go_loopw [18] (fun v wr => ∃ i : Nat, i ≤ 8 ∧ v = .int .i64 i ∧ Hid (Below w.heap.size w wr) ∧ Hid (wr.there w.heap.size 0 64 ∧ wr.there (w.heap.size + 1) 0 64) ∧ Hid (∀ k, k < 64 → wr.cell? ⟨w.heap.size + 1, k, none⟩ = some (.int .u8 (if k < 4 * i then spellAt 4 s k else 0)))) (fun v _ => 8 - (intOf v).toNat)
  case atStart =>
    refine ⟨0, by omega, rfl, ?_, ⟨?_, ?_⟩, ?_⟩
    · exact ((Below.refl _ _).alloc (Nat.le_refl _) _).alloc (by simp) _
    · exact World.there_alloc (there_new w _ 123 64 (by decide)) _
    · exact two_there w _ _ 123 123 64 (by decide)
    · intro k hk
      rw [if_neg (by omega)]
      exact (two_cell w _ _ 123 123 k).trans (zero_lit 64 k hk)
  case round =>
    obtain ⟨i, hi, rfl, HB, HN, HF⟩ := hrel
    by_cases h8 : i < 8
    · have hidx : (Instr.index 114 (.agg #[.int .u64 s.a, .int .u64 s.b, .int .u64 s.c, .int .u64 s.d, .int .u64 s.e, .int .u64 s.f, .int .u64 s.g, .int .u64 s.k]) (.int .i64 i)).run Tryd.prog wr = .ok (.int .u64 (fnz s.list i)) wr := by
        have : i = 0 ∨ i = 1 ∨ i = 2 ∨ i = 3 ∨ i = 4 ∨ i = 5 ∨ i = 6 ∨ i = 7 := by omega
        rcases this with rfl | rfl | rfl | rfl | rfl | rfl | rfl | rfl <;> rfl
      go_wp2
      go_loopw [6, 7] (fun x v wr => ∃ m : Nat, m ≤ 4 ∧ v = .int .i64 ((m : Int) - 1) ∧ x = .int .u64 (fnz s.list i / 256 ^ (4 - m)) ∧ Hid (Below w.heap.size w wr) ∧ Hid (wr.there w.heap.size 0 64 ∧ wr.there (w.heap.size + 1) 0 64) ∧ Hid (∀ k, k < 64 → wr.cell? ⟨w.heap.size + 1, k, none⟩ = some (.int .u8 (if k < 4 * i ∨ (4 * i + m ≤ k ∧ k < 4 * i + 4) then spellAt 4 s k else 0)))) (fun _ v _ => (intOf v + 1).toNat)
      case atStart =>
        refine ⟨4, by omega, rfl, by simp, HB, HN, fun k hk => ?_⟩
        rw [HF.out k hk]
        by_cases hk1 : k < 4 * i
        · rw [if_pos hk1, if_pos (.inl hk1)]
        · rw [if_neg hk1, if_neg (by omega)]
      case round =>
        obtain ⟨m, hm, rfl, rfl, HB2, HN2, HF2⟩ := hrel
        clear HB HN HF hidx
        by_cases hm0 : 0 < m
        · obtain ⟨m', rfl⟩ : ∃ m', m = m' + 1 := ⟨m - 1, by omega⟩
          rw [show ((m' + 1 : Nat) : Int) - 1 = (m' : Int) by omega]
          have e1 : ((i : Int) * 4 + (m' : Int)).toNat = 4 * i + m' := by omega
          have fw : wr.frozen? ⟨w.heap.size + 1, 4 * i + m', none⟩ = false := by simpa using (HN2.out.2 (4 * i + m') (by omega)).2
          have fc := HF2.out (4 * i + m') (by omega)
          generalize hX : fnz s.list i / 256 ^ (4 - (m' + 1)) = X at *
          go_wp2
          go_roundw
          case rel =>
            refine ⟨m', by omega, rfl, ?_, HB2.out.setCell (by show _ ≤ w.heap.size + 1; omega) _, ⟨World.there_setCells HN2.out.1 _ _ [_], World.there_setCells HN2.out.2 _ _ [_]⟩, ?_⟩
            · rw [← hX, pow_step, show 4 - (m' + 1) + 1 = 4 - m' by omega]
            · refine set_cell HF2.out (by omega) _ ?_ ?_
              · rw [if_pos (.inr ⟨Nat.le_refl _, by omega⟩), spellAt, if_pos (by omega), show (4 * i + m') / 4 = i by omega, show (4 * i + m') % 4 = m' by omega, show 4 - 1 - m' = 4 - (m' + 1) by omega, hX]
              · intro j hj hne
                by_cases hc : j < 4 * i ∨ (4 * i + (m' + 1) ≤ j ∧ j < 4 * i + 4)
                · rw [if_pos hc, if_pos (by omega)]
                · rw [if_neg hc, if_neg (by omega)]
          case measure => simp [intOf]
        · obtain rfl : m = 0 := by omega
          go_wp2
          go_roundw
          case rel =>
            refine ⟨i + 1, by omega, by go_num, HB2, HN2, fun k hk => ?_⟩
            rw [HF2.out k hk]
            by_cases hc : k < 4 * (i + 1)
            · rw [if_pos hc, if_pos (by omega)]
            · rw [if_neg hc, if_neg (by omega)]
          case measure => simp [intOf]; omega
    · obtain rfl : i = 8 := by omega
      have HR : Hid (wr.rangeAt (w.heap.size + 1) 0 (spellCells 4 s)) := fun j v hv => by
        have hj : j < 64 := by
          by_cases hj : j < (spellCells 4 s).length
          · rwa [spellCells_length] at hj
          · rw [List.getElem?_eq_none (by omega)] at hv; cases hv
        rw [Nat.zero_add, HF.out j hj]
        simp only [spellCells, List.getElem?_map, List.getElem?_range hj, Option.map_some, Option.some.injEq] at hv
        rw [← hv]
        by_cases hc : j < 4 * 8
        · rw [if_pos hc]
        · rw [if_neg hc, spellAt, if_neg (by omega)]
      have HY : Hid (wr.there w.heap.size 0 (spellCells 4 s).toArray.size) := by rw [spellArr_size]; exact HN.out.1
      have HZ : Hid ((Tryd.prog.info? 123).map (·.size) = some (spellCells 4 s).toArray.size) := by rw [spellArr_size]; exact size75
      go_wp2_with (first
        | (refine wpList_load_mid (by rfl) 123 (.tmp 3) (by rfl) (w.heap.size + 1) 0 (by rfl) (spellCells 4 s) _ HR.out Tryd.underlying123 rfl (by rw [spellCells_length]; exact size75) ?_)
        | (refine wpList_store_mid (by rfl) 123 (.tmp 2) (.tmp 39) (by rfl) w.heap.size 0 (spellCells 4 s).toArray (by rfl) (by rfl) HY.out HZ.out (spellCells_one 4 s) ?_)
        | fail)
      have hl := run_loadVar_mid (P := Tryd.prog) (wr.setCells w.heap.size 0 (spellCells 4 s)) w.heap.size 0 123 (spellCells 4 s) _ (World.rangeAt_setCells_same wr w.heap.size 0 (spellCells 4 s) (by rw [spellCells_length]; exact HN.out.1)) Tryd.underlying123 rfl (by rw [spellCells_length]; exact size75)
      refine bodyPost_ret (v := .agg (spellCells 4 s).toArray) ?_ rfl ⟨rfl, below_setCells _ (Nat.le_refl _) _ _ _ HB.out⟩
      rw [results_cell1D Tryd.results88]
      simp [Act.put, asAddr, hl]

set_option maxHeartbeats 3200000 in
set_option maxRecDepth 100000 in
theorem spell128 (g o : Nat) (h : Int) (s : Eight) (half : Nat → Int) (fed : Nat) (w : World) (hblk : blockOf h = 128) (HK : Hid (TK w g o h true s half fed)) :
    Calls Tryd.prog 88 #[.pointer (some ⟨g, o, none⟩)] w fun e w' => e = .returned (.agg (spellCells 8 s).toArray) ∧ Below w.heap.size w w' := by
  have c0 := HK.out.hash
  have c2 : w.cell? ⟨g, o + 2, none⟩ = some (.int .u64 s.a) := HK.out.st 0 _ rfl
  have c3 : w.cell? ⟨g, o + 2 + 1, none⟩ = some (.int .u64 s.b) := HK.out.st 1 _ rfl
  have c4 : w.cell? ⟨g, o + 2 + 2, none⟩ = some (.int .u64 s.c) := HK.out.st 2 _ rfl
  have c5 : w.cell? ⟨g, o + 2 + 3, none⟩ = some (.int .u64 s.d) := HK.out.st 3 _ rfl
  have c6 : w.cell? ⟨g, o + 2 + 4, none⟩ = some (.int .u64 s.e) := HK.out.st 4 _ rfl
  have c7 : w.cell? ⟨g, o + 2 + 5, none⟩ = some (.int .u64 s.f) := HK.out.st 5 _ rfl
  have c8 : w.cell? ⟨g, o + 2 + 6, none⟩ = some (.int .u64 s.g) := HK.out.st 6 _ rfl
  have c9 : w.cell? ⟨g, o + 2 + 7, none⟩ = some (.int .u64 s.k) := HK.out.st 7 _ rfl
  have hgw : g < w.heap.size := lt_of_cell c0
  go_enter Tryd.func88, Tryd.ntmps88
  go_wp2_with (first | (go_at_call 83; refine (block_any _ _).mono ?_; rintro e1 w1 ⟨rfl, hw1⟩; obtain rfl := hw1.symm; rw [hblk]))
  clear c2 c3 c4 c5 c6 c7 c8 c9 c0
  go_loopw [18] (fun v wr => ∃ i : Nat, i ≤ 8 ∧ v = .int .i64 i ∧ Hid (Below w.heap.size w wr) ∧ Hid (wr.there w.heap.size 0 64 ∧ wr.there (w.heap.size + 1) 0 64) ∧ Hid (∀ k, k < 64 → wr.cell? ⟨w.heap.size + 1, k, none⟩ = some (.int .u8 (if k < 8 * i then spellAt 8 s k else 0)))) (fun v _ => 8 - (intOf v).toNat)
  case atStart =>
    refine ⟨0, by omega, rfl, ?_, ⟨?_, ?_⟩, ?_⟩
    · exact ((Below.refl _ _).alloc (Nat.le_refl _) _).alloc (by simp) _
    · exact World.there_alloc (there_new w _ 123 64 (by decide)) _
    · exact two_there w _ _ 123 123 64 (by decide)
    · intro k hk
      rw [if_neg (by omega)]
      exact (two_cell w _ _ 123 123 k).trans (zero_lit 64 k hk)
  case round =>
    obtain ⟨i, hi, rfl, HB, HN, HF⟩ := hrel
    by_cases h8 : i < 8
    · have hidx : (Instr.index 114 (.agg #[.int .u64 s.a, .int .u64 s.b, .int .u64 s.c, .int .u64 s.d, .int .u64 s.e, .int .u64 s.f, .int .u64 s.g, .int .u64 s.k]) (.int .i64 i)).run Tryd.prog wr = .ok (.int .u64 (fnz s.list i)) wr := by
        have : i = 0 ∨ i = 1 ∨ i = 2 ∨ i = 3 ∨ i = 4 ∨ i = 5 ∨ i = 6 ∨ i = 7 := by omega
        rcases this with rfl | rfl | rfl | rfl | rfl | rfl | rfl | rfl <;> rfl
      go_wp2
      go_loopw [6, 7] (fun x v wr => ∃ m : Nat, m ≤ 8 ∧ v = .int .i64 ((m : Int) - 1) ∧ x = .int .u64 (fnz s.list i / 256 ^ (8 - m)) ∧ Hid (Below w.heap.size w wr) ∧ Hid (wr.there w.heap.size 0 64 ∧ wr.there (w.heap.size + 1) 0 64) ∧ Hid (∀ k, k < 64 → wr.cell? ⟨w.heap.size + 1, k, none⟩ = some (.int .u8 (if k < 8 * i ∨ (8 * i + m ≤ k ∧ k < 8 * i + 8) then spellAt 8 s k else 0)))) (fun _ v _ => (intOf v + 1).toNat)
      case atStart =>
        refine ⟨8, by omega, rfl, by simp, HB, HN, fun k hk => ?_⟩
        rw [HF.out k hk]
        by_cases hk1 : k < 8 * i
        · rw [if_pos hk1, if_pos (.inl hk1)]
        · rw [if_neg hk1, if_neg (by omega)]
      case round =>
        obtain ⟨m, hm, rfl, rfl, HB2, HN2, HF2⟩ := hrel
        clear HB HN HF hidx
        by_cases hm0 : 0 < m
        · obtain ⟨m', rfl⟩ : ∃ m', m = m' + 1 := ⟨m - 1, by omega⟩
          rw [show ((m' + 1 : Nat) : Int) - 1 = (m' : Int) by omega]
          have e1 : ((i : Int) * 8 + (m' : Int)).toNat = 8 * i + m' := by omega
          have fw : wr.frozen? ⟨w.heap.size + 1, 8 * i + m', none⟩ = false := by simpa using (HN2.out.2 (8 * i + m') (by omega)).2
          have fc := HF2.out (8 * i + m') (by omega)
          generalize hX : fnz s.list i / 256 ^ (8 - (m' + 1)) = X at *
          go_wp2
          go_roundw
          case rel =>
            refine ⟨m', by omega, rfl, ?_, HB2.out.setCell (by show _ ≤ w.heap.size + 1; omega) _, ⟨World.there_setCells HN2.out.1 _ _ [_], World.there_setCells HN2.out.2 _ _ [_]⟩, ?_⟩
            · rw [← hX, pow_step, show 8 - (m' + 1) + 1 = 8 - m' by omega]
            · refine set_cell HF2.out (by omega) _ ?_ ?_
              · rw [if_pos (.inr ⟨Nat.le_refl _, by omega⟩), spellAt, if_pos (by omega), show (8 * i + m') / 8 = i by omega, show (8 * i + m') % 8 = m' by omega, show 8 - 1 - m' = 8 - (m' + 1) by omega, hX]
              · intro j hj hne
                by_cases hc : j < 8 * i ∨ (8 * i + (m' + 1) ≤ j ∧ j < 8 * i + 8)
                · rw [if_pos hc, if_pos (by omega)]
                · rw [if_neg hc, if_neg (by omega)]
          case measure => simp [intOf]
        · obtain rfl : m = 0 := by omega
          go_wp2
          go_roundw
          case rel =>
            refine ⟨i + 1, by omega, by go_num, HB2, HN2, fun k hk => ?_⟩
            rw [HF2.out k hk]
            by_cases hc : k < 8 * (i + 1)
            · rw [if_pos hc, if_pos (by omega)]
            · rw [if_neg hc, if_neg (by omega)]
          case measure => simp [intOf]; omega
    · obtain rfl : i = 8 := by omega
      have HR : Hid (wr.rangeAt (w.heap.size + 1) 0 (spellCells 8 s)) := fun j v hv => by
        have hj : j < 64 := by
          by_cases hj : j < (spellCells 8 s).length
          · rwa [spellCells_length] at hj
          · rw [List.getElem?_eq_none (by omega)] at hv; cases hv
        rw [Nat.zero_add, HF.out j hj]
        simp only [spellCells, List.getElem?_map, List.getElem?_range hj, Option.map_some, Option.some.injEq] at hv
        rw [← hv]
        by_cases hc : j < 8 * 8
        · rw [if_pos hc]
        · rw [if_neg hc, spellAt, if_neg (by omega)]
      have HY : Hid (wr.there w.heap.size 0 (spellCells 8 s).toArray.size) := by rw [spellArr_size]; exact HN.out.1
      have HZ : Hid ((Tryd.prog.info? 123).map (·.size) = some (spellCells 8 s).toArray.size) := by rw [spellArr_size]; exact size75
      go_wp2_with (first
        | (refine wpList_load_mid (by rfl) 123 (.tmp 3) (by rfl) (w.heap.size + 1) 0 (by rfl) (spellCells 8 s) _ HR.out Tryd.underlying123 rfl (by rw [spellCells_length]; exact size75) ?_)
        | (refine wpList_store_mid (by rfl) 123 (.tmp 2) (.tmp 39) (by rfl) w.heap.size 0 (spellCells 8 s).toArray (by rfl) (by rfl) HY.out HZ.out (spellCells_one 8 s) ?_)
        | fail)
      have hl := run_loadVar_mid (P := Tryd.prog) (wr.setCells w.heap.size 0 (spellCells 8 s)) w.heap.size 0 123 (spellCells 8 s) _ (World.rangeAt_setCells_same wr w.heap.size 0 (spellCells 8 s) (by rw [spellCells_length]; exact HN.out.1)) Tryd.underlying123 rfl (by rw [spellCells_length]; exact size75)
      refine bodyPost_ret (v := .agg (spellCells 8 s).toArray) ?_ rfl ⟨rfl, below_setCells _ (Nat.le_refl _) _ _ _ HB.out⟩
      rw [results_cell1D Tryd.results88]
      simp [Act.put, asAddr, hl]
end Go.Proofs.YtinmhgackihakaaDoor
namespace Go.Proofs.YtinmhgackihakaaDoor
open Go.RowKit
set_option linter.unusedVariables false
set_option linter.unusedSimpArgs false

/-- The cells of a taken, as a list. -/
def tkL (h : Int) (wd : Bool) (s : Eight) (half : Nat → Int) (fed : Nat) : List Value :=
  .int .i64 h :: fnV wd :: (s.cells ++ ((List.range 128).map (fun i => Value.int .u8 (half i)) ++ [.int .u64 fed]))
theorem tkL_length (h : Int) (wd : Bool) (s : Eight) (half : Nat → Int) (fed : Nat) : (tkL h wd s half fed).length = 139 := by simp [tkL, Eight.cells_length]
theorem tkL_at (h : Int) (wd : Bool) (s : Eight) (half : Nat → Int) (fed : Nat) :
    (tkL h wd s half fed)[0]? = some (.int .i64 h) ∧ (tkL h wd s half fed)[1]? = some (fnV wd) ∧ (∀ i, i < 8 → (tkL h wd s half fed)[2 + i]? = s.cells[i]?) ∧ (∀ i, i < 128 → (tkL h wd s half fed)[10 + i]? = some (.int .u8 (half i))) ∧ (tkL h wd s half fed)[138]? = some (.int .u64 fed) := by
  have hc := s.cells_length
  refine ⟨rfl, rfl, ?_, ?_, ?_⟩
  · intro i hi
    rw [tkL, show 2 + i = (i + 1) + 1 by omega, List.getElem?_cons_succ, List.getElem?_cons_succ, List.getElem?_append_left (by omega)]
  · intro i hi
    rw [tkL, show 10 + i = ((8 + i) + 1) + 1 by omega, List.getElem?_cons_succ, List.getElem?_cons_succ, List.getElem?_append_right (by omega), List.getElem?_append_left (by simp; omega)]
    rw [hc, show 8 + i - 8 = i by omega]
    simp [hi]
  · rw [tkL, show 138 = (136 + 1) + 1 by omega, List.getElem?_cons_succ, List.getElem?_cons_succ, List.getElem?_append_right (by omega), List.getElem?_append_right (by simp; omega)]
    simp [hc]
theorem TK.range {w : World} {g o : Nat} {h : Int} {wd : Bool} {s : Eight} {half : Nat → Int} {fed : Nat} (k : TK w g o h wd s half fed) : w.rangeAt g o (tkL h wd s half fed) := by
  obtain ⟨h0, h1, h2, h3, h4⟩ := tkL_at h wd s half fed
  intro j v hv
  have hj : j < 139 := by
    by_cases hj : j < 139
    · exact hj
    · rw [List.getElem?_eq_none (by rw [tkL_length]; omega)] at hv; cases hv
  by_cases j0 : j = 0
  · subst j0; rw [h0] at hv; cases hv; exact k.hash
  by_cases j1 : j = 1
  · subst j1; rw [h1] at hv; cases hv; exact k.fn
  by_cases j2 : j < 10
  · obtain ⟨i, rfl⟩ : ∃ i, j = 2 + i := ⟨j - 2, by omega⟩
    rw [h2 i (by omega)] at hv
    rw [← Nat.add_assoc]
    exact k.st i v hv
  by_cases j3 : j < 138
  · obtain ⟨i, rfl⟩ : ∃ i, j = 10 + i := ⟨j - 10, by omega⟩
    rw [h3 i (by omega)] at hv
    rw [← Nat.add_assoc]
    cases hv
    exact k.half i (by omega)
  · obtain rfl : j = 138 := by omega
    rw [h4] at hv; cases hv; exact k.fed
theorem TK.of {w : World} {g o : Nat} {h : Int} {wd : Bool} {s : Eight} {half : Nat → Int} {fed : Nat} (hr : w.rangeAt g o (tkL h wd s half fed)) (ht : w.there g o 139) : TK w g o h wd s half fed := by
  obtain ⟨h0, h1, h2, h3, h4⟩ := tkL_at h wd s half fed
  refine ⟨hr 0 _ h0, hr 1 _ h1, fun j v hv => ?_, fun i hi => ?_, hr 138 _ h4, ht⟩
  · have hj : j < 8 := by
      by_cases hj : j < s.cells.length
      · exact hj
      · rw [List.getElem?_eq_none (by omega)] at hv; cases hv
    have := hr (2 + j) v (by rw [h2 j hj]; exact hv)
    rw [← Nat.add_assoc] at this
    exact this
  · have := hr (10 + i) _ (h3 i hi)
    rw [← Nat.add_assoc] at this
    exact this
theorem cells_oneE (s : Eight) : ∀ v ∈ s.cells, v.oneCell' = true := by
  intro v hv
  simp only [Eight.cells, List.mem_map] at hv
  obtain ⟨x, _, rfl⟩ := hv
  rfl
theorem tkL_one (h : Int) (wd : Bool) (s : Eight) (half : Nat → Int) (fed : Nat) : (tkL h wd s half fed).toArray.all (·.oneCell') = true := all_oneCell_toArray (by
  intro v hv
  simp only [tkL, List.mem_cons, List.mem_append, List.mem_map, List.mem_singleton] at hv
  rcases hv with rfl | rfl | hv | ⟨i, _, rfl⟩ | rfl | hv
  · rfl
  · cases wd <;> rfl
  · exact cells_oneE s v hv
  · rfl
  · rfl
  · simp at hv)
theorem tkArr_size (h : Int) (wd : Bool) (s : Eight) (half : Nat → Int) (fed : Nat) : (tkL h wd s half fed).toArray.size = 139 := by simp [tkL_length]

end Go.Proofs.YtinmhgackihakaaDoor
