import Derived.Test.YtkeklmkaleomkaaDoorPart05
import Derived.Test.YtkeklmkaleomkaaDoorPart06
namespace Go.Proofs.YtkeklmkaleomkaaDoor
open Go.RowKit
set_option linter.unusedVariables false
set_option linter.unusedSimpArgs false
set_option maxHeartbeats 800000 in
/-- Left. -/
theorem spleft (g : Nat) (dg : Int) (K V : Nat → Int) (L c : Int) (w : World) (hs : Hid (SpAt w g dg K V L c)) (h0 : 0 ≤ c) (h1 : c ≤ 16777216) (h2 : 0 ≤ L) (h3 : L ≤ 16777216) :
    Calls Tryd.prog 16 #[.pointer (some ⟨g, 0, none⟩)] w fun e w' => e = .returned (.int .i64 (L - c)) ∧ ∃ m, w' = w.drewN m := by
  have c1 : w.cell? ⟨g, 129, none⟩ = some (.int .i64 L) := hs.out.lim
  have c2 : w.cell? ⟨g, 130, none⟩ = some (.int .i64 c) := hs.out.cnt
  go_enter Tryd.func16, Tryd.ntmps16
  go_upto_region 3 with fail
  go_quiet (fail)
  go_wp2
  go_ret
  exact ⟨rfl, _, rfl⟩
set_option maxHeartbeats 1600000 in
set_option maxRecDepth 100000 in
/-- Draw, when it has to be fed. -/
theorem spthirst (g : Nat) (dg : Int) (K V : Nat → Int) (L : Int) (n : Nat) (w : World) (hs : Hid (SpAt w g dg K V L L)) (hn : n ≤ 65536) :
    Calls Tryd.prog 12 #[.pointer (some ⟨g, 0, none⟩), .int .i64 (n : Nat), .slice none 0 0] w fun e w' => e = .returned (.tuple #[.slice none 0 0, .int .i64 61]) ∧ ∃ m, w' = w.drewN m := by
  have HJ : Hid (∀ u, Calls Tryd.prog 25 #[.slice none 0 0] u fun e w' => e = .returned (.int .i64 0) ∧ w' = u) := fun u => joined_ok (u.heap.size + 1) (.slice none 0 0) [] u ⟨none, 0, rfl, by simp, by simp [maxLen], .inl rfl⟩ (by show _ ≤ _; simp)
  have c1 : w.cell? ⟨g, 129, none⟩ = some (.int .i64 L) := hs.out.lim
  have c2 : w.cell? ⟨g, 130, none⟩ = some (.int .i64 L) := hs.out.cnt
  have d1 : decide ((65536 : Int) < (n : Nat)) = false := by simp; omega
  have d3 : ¬ ((n : Nat) : Int) < 0 := by omega
  go_enter Tryd.func12, Tryd.ntmps12
  go_upto_region 7 with (go_at_call 25; refine (HJ.out _).mono ?_; rintro e5 w5 ⟨rfl, hw5⟩; obtain rfl := hw5.symm)
  go_quiet (fail)
  go_wp2
  go_ret2
  exact ⟨rfl, _, rfl⟩
set_option maxHeartbeats 1600000 in
set_option maxRecDepth 100000 in
/-- Feed, of what must be taken. -/
theorem spfeed (g : Nat) (dg : Int) (K V : Nat → Int) (L c : Int) (ea : Option Addr) (en ec : Nat) (E : List Int) (v : Value) (yss : List (List Int)) (w : World) (k : Hid (Known dg)) (hs : Hid (SpAt w g dg K V L c)) (hT : Hid (Tables w)) (he : Hid (View w (.slice ea en ec) E)) (hel : Hid (E.length = en)) (heg : Hid (E ≠ [] → ∀ b off l c, (.slice ea en ec : Value) = .slice (some ⟨b, off, none⟩) l c → b ≠ g)) (h1 : 16 ≤ en) (h2 : en ≤ 65536) (hp : Hid (PL w g v yss)) (hl : Hid (yss.flatten.length ≤ 65536)) (hlb : Hid ((3 + yss.length) * 24 ≤ 140737488355328)) (hg : 4 ≤ g) :
    Calls Tryd.prog 14 #[.pointer (some ⟨g, 0, none⟩), .slice ea en ec, v] w fun e w' => e = .returned (.int .i64 0) ∧ SpAt w' g dg (updK dg K V (E ++ yss.flatten)) (updV dg K V (E ++ yss.flatten)) L 0 ∧ Touch w w' g 0 131 := by
  obtain ⟨N, HNN⟩ : ∃ N, Hid (N = yss.flatten.length) := ⟨_, rfl⟩
  have hN : N ≤ 65536 := by rw [HNN.out]; exact hl.out
  have HJ : Hid (∀ u, PL u g v yss → Calls Tryd.prog 25 #[v] u fun e w' => e = .returned (.int .i64 (N : Nat)) ∧ w' = u) := fun u hu => by
    have q := joined_ok g v yss u hu.parts (by show _ ≤ _; have := hl.out; omega)
    rw [← HNN.out] at q
    exact q
  have d2 : decide ((65536 : Int) < (N : Nat)) = false := by simp; omega
  obtain ⟨W, hW⟩ : ∃ W, W = w.alloc (.cells #[.slice ea en ec] 22) := ⟨_, rfl⟩
  have hsW : W.heap.size = w.heap.size + 1 := by rw [hW]; simp
  have HBW : Hid (Below w.heap.size w W) := by rw [hW]; exact below_alloc1 w _
  have howW : W.ownsRow w.heap.size 22 1 (.slice (some ⟨w.heap.size, 0, none⟩) 1 1) 1 [.slice ea en ec] := by
    have q := World.ownsRow_lit (base := w.heap.size) (e := 22) (size := 1) w #[.slice ea en ec] 1 (by omega) (by decide) rfl
    rw [← hW] at q
    exact q
  obtain ⟨v', ws, w', hap, hown, hgrow, hwl, hws⟩ := append_run w W.drew (fun q hq => HBW.out.block q hq) w.heap.size _ [.slice ea en ec] howW.drew v yss g hp.out (by show _ ≤ W.heap.size; omega) (by have := hlb.out; simp; omega) 37
  rw [hW] at hap
  have HOW : Hid (w'.ownsRow w.heap.size 22 1 v' (1 + yss.length) (.slice ea en ec :: ws)) := hown
  have HBw : Hid (Below w.heap.size w w') := by
    have q : Below w.heap.size w W.drew := ⟨HBW.out.os, HBW.out.tape, HBW.out.output, HBW.out.size, HBW.out.block⟩
    exact q.grown hgrow q.size (fun b hb => by have hb' : some (w.heap.size) = some b := hb; injection hb' with hb'; omega)
  have HGW : Hid (g < w.heap.size) := hs.out.lt
  have HU : Hid (Calls Tryd.prog 24 #[.pointer (some ⟨g, 0, none⟩), v'] w' fun e w'' => Hid (e = .returned (.tuple #[]) ∧ SpAt w'' g dg (updK dg K V (E ++ yss.flatten)) (updV dg K V (E ++ yss.flatten)) L c ∧ Touch w w'' g 0 131)) := by
    have hpl : PL w' g v' (E :: yss) := by
      rcases HOW.out.2 with ⟨_, e0⟩ | ⟨gp, cp, cur, e, q1, q2, q3, q4, q5, q6⟩
      · omega
      · refine .inr ⟨⟨_, _, _, e⟩, ⟨some ⟨gp, 0, none⟩, cp, by rw [e]; simp; omega, by simp; omega, q4, .inr ⟨gp, 0, rfl, by have := HGW.out; omega, fun i hi => ?_⟩⟩⟩
        have hi' : i < 1 + ws.length := by rw [hwl]; simp at hi; omega
        have hx : ∃ x, (.slice ea en ec :: ws : List Value)[i]? = some x := by
          exact ⟨_, List.getElem?_eq_getElem (by simp; omega)⟩
        obtain ⟨x, hx⟩ := hx
        have hc := HOW.out.cells (g := gp) (by rw [e]; rfl) i x hx
        rw [Addr.add_lit] at hc
        refine ⟨x, hc, ?_⟩
        match i, hx with
        | 0, hx =>
          simp at hx
          subst hx
          exact ⟨he.out.kept (fun j hj => HBw.out.block j hj), heg.out⟩
        | i + 1, hx =>
          simp at hx
          have q := hws i x hx
          have e2 : (E :: yss).getD (i + 1) [] = yss.getD i [] := by simp [List.getD]
          rw [e2]
          exact ⟨q.1.kept (fun j hj => HBw.out.block j hj), q.2⟩
    have q := update_ok g dg K V L c v' (E :: yss) w' k (hs.out.below HBw.out) (hT.out.below HBw.out hT.out.size) hpl (by show _ ≤ _; have h3 := hl.out; have h4 := hel.out; simp at h3 ⊢; omega) (by show _ ≤ _; have h3 := hlb.out; simp; omega) hg
    have e1 : (E :: yss).flatten = E ++ yss.flatten := by simp
    rw [e1] at q
    refine q.mono ?_
    rintro e w'' ⟨r1, r2, r3⟩
    exact ⟨r1, r2, ((Touch.refl w g 0 131).below HBw.out HGW.out).trans r3⟩
  go_enter Tryd.func14, Tryd.ntmps14
  go_upto_region 7 with (first | (go_at_call 25; refine (HJ.out _ hp.out).mono ?_; rintro e5 w5 ⟨rfl, hw5⟩; obtain rfl := hw5.symm) | (go_at_call 23; refine (feeds_ok ea en ec _ h1 h2).mono ?_; rintro e5 w5 ⟨rfl, hw5⟩; obtain rfl := hw5.symm))
  have hS0 : Touch w w.drew g 0 131 := (Touch.refl _ _ _ _).drew
  refine wp_region_noPanic ?_
  refine wp_region_held_drew (S := fun u => Touch w u g 0 131) (by kernel_rfl) (hS0) (fun _ => ?_)
  refine takeH_at 0 15 (.pointer (some ⟨g, 0, none⟩)) rfl rfl (by kernel_rfl) (by kernel_rfl) (by kernel_rfl) (fun _ _ _ h => h) (hS0) (Or.inl ⟨by kernel_rfl, fun w' hS' => by go_simp⟩) ?_
  simp only [List.setIfInBounds_toArray, List.set_cons_zero, List.set_cons_succ]
  refine takeH_at 1 16 (.pointer (some ⟨g, 0, none⟩)) rfl rfl (by kernel_rfl) (by kernel_rfl) (by kernel_rfl) (fun _ _ _ h => h) (hS0) (Or.inl ⟨by kernel_rfl, fun w' hS' => by go_simp⟩) ?_
  simp only [List.setIfInBounds_toArray, List.set_cons_zero, List.set_cons_succ]
  refine takeH_at 2 17 (.pointer (some ⟨g, 0, none⟩)) rfl rfl (by kernel_rfl) (by kernel_rfl) (by kernel_rfl) (fun _ _ _ h => h) (hS0) (Or.inl ⟨by kernel_rfl, fun w' hS' => by go_simp⟩) ?_
  simp only [List.setIfInBounds_toArray, List.set_cons_zero, List.set_cons_succ]
  refine takeH_at 3 18 (.slice ea en ec) rfl rfl (by kernel_rfl) (by kernel_rfl) (by kernel_rfl) (fun _ _ _ h => h) (hS0) (Or.inl ⟨by kernel_rfl, fun w' hS' => by go_simp⟩) ?_
  simp only [List.setIfInBounds_toArray, List.set_cons_zero, List.set_cons_succ]
  refine takeH_at 5 20 (v) rfl rfl (by kernel_rfl) (by kernel_rfl) (by kernel_rfl) (fun _ _ _ h => h) (hS0) (Or.inl ⟨by kernel_rfl, fun w' hS' => by go_simp⟩) ?_
  simp only [List.setIfInBounds_toArray, List.set_cons_zero, List.set_cons_succ]
  refine wpAnyH_ready (rs := [4]) (by kernel_rfl) (by simp) ?_
  refine AllReadyH.cons rfl (fun Kc hK => ?_) AllReadyH.nil
  go_simp
  refine hK.out _ _ ((hS0).alloc _ hs.out.lt) (fun _ => ?_)
  clear hK Kc
  try simp only [List.setIfInBounds_toArray, List.set_cons_zero, List.set_cons_succ]
  refine wpAnyH_ready (rs := [6]) (by kernel_rfl) (by simp) ?_
  refine AllReadyH.cons rfl (fun Kc hK => ?_) AllReadyH.nil
  refine wp_append_parts (.tmp 19) (.tmp 20) rfl rfl rfl hap ?_
  refine hK.out _ _ ((Touch.refl w g 0 131).below HBw.out hs.out.lt) (fun _ => ?_)
  clear hK Kc
  try simp only [List.setIfInBounds_toArray, List.set_cons_zero, List.set_cons_succ]
  refine wpAnyH_ready (rs := [7]) (by kernel_rfl) (by simp) ?_
  refine AllReadyH.cons rfl (fun Kc hK => ?_) AllReadyH.nil
  go_simp
  refine HU.out.mono ?_
  intro e6 w6 hh
  obtain ⟨rfl, hs6, ht6⟩ := hh.out
  go_wp2_with fail
  refine hK.out _ _ ht6 (fun _ => ?_)
  clear hK Kc
  refine wpAnyH_done (by kernel_rfl) ?_ _
  refine NoPanic.normal ?_
  have HS6 : Hid (SpAt w6 g dg (updK dg K V (E ++ yss.flatten)) (updV dg K V (E ++ yss.flatten)) L c) := hs6
  have HT6 : Hid (Touch w w6 g 0 131) := ht6
  clear hh hs6 ht6 hap hown hgrow hws howW hS0 HU HOW
  have c3 : w6.cell? ⟨g, 130, none⟩ = some (.int .i64 c) := HS6.out.cnt
  have f3 : w6.frozen? ⟨g, 130, none⟩ = false := by have := (HS6.out.there 130 (by omega)).2; simpa using this
  have HF : Hid (SpAt (w6.setCell ⟨g, 130, none⟩ (.int .i64 0)) g dg (updK dg K V (E ++ yss.flatten)) (updV dg K V (E ++ yss.flatten)) L 0 ∧ Touch w (w6.setCell ⟨g, 130, none⟩ (.int .i64 0)) g 0 131) := ⟨HS6.out.setC 0, HT6.out.trans ((Touch.refl w6 g 0 131).setCell 130 _ (by omega) (by omega))⟩
  go_wp2
  go_ret
  exact ⟨rfl, HF.out.1, HF.out.2⟩
end Go.Proofs.YtkeklmkaleomkaaDoor
namespace Go.Proofs.YtkeklmkaleomkaaDoor
open Go.RowKit
set_option linter.unusedVariables false
set_option linter.unusedSimpArgs false
set_option maxHeartbeats 1600000 in
set_option maxRecDepth 100000 in
theorem th_0 (dg L n : Int) (ea na pa : Option Addr) (en ec nn nc pn pc : Nat) (w : World) (k : Hid (¬ Good dg L en nn pn)) :
    Calls Tryd.prog 5 #[.agg #[.int .i64 dg, .int .i64 L, .slice ea en ec, .slice na nn nc, .slice pa pn pc], .int .i64 n] w fun e w' => e = .returned (.bool true) ∧ Below w.heap.size w w' := by
  obtain ⟨w0, hw0⟩ : ∃ w0, w0 = w.alloc (.cells #[.int .i64 dg, .int .i64 L, .slice ea en ec, .slice na nn nc, .slice pa pn pc] 24) := ⟨_, rfl⟩
  have HB00 : Hid (Below w.heap.size w w0) := by rw [hw0]; exact (Below.refl _ _).alloc (Nat.le_refl _) _
  have HS0 : Hid (w0.heap.size = w.heap.size + 1) := by rw [hw0]; exact size_alloc1 _ _
  have F : ∀ j v, (#[.int .i64 dg, .int .i64 L, .slice ea en ec, .slice na nn nc, .slice pa pn pc] : Array Value)[j]? = some v → w0.cell? ⟨w.heap.size, j, none⟩ = some v := fun j v hj => by
    rw [hw0, World.cell?_alloc_at _ 24 _ _ rfl]
    exact hj
  have f0 := F 0 _ rfl
  have f1 := F 1 _ rfl
  have f2 := F 2 _ rfl
  have f3 := F 3 _ rfl
  have f4 := F 4 _ rfl
  clear F
  have HG : Hid (Calls Tryd.prog 8 #[.agg #[.int .i64 dg, .int .i64 L, .slice ea en ec, .slice na nn nc, .slice pa pn pc]] w0 fun e w' => Hid (e = .returned (.bool false) ∧ Below w0.heap.size w0 w')) := by
    refine (good_any dg L ea na pa en ec nn nc pn pc w0).mono ?_
    rintro e w' ⟨G, q1, q2, q3⟩
    refine ⟨?_, q3⟩
    cases G
    · exact q1
    · exact absurd (q2.1 rfl) k.out
  go_enter Tryd.func5, Tryd.ntmps5
  go_upto_region 1 with fail
  rw [← hw0]
  clear hw0
  go_wp2_with (go_at_call 8; refine HG.out.mono ?_)
  intro e1 w1 hh
  obtain ⟨rfl, hb1⟩ := hh.out
  have HB1 : Hid (Below w.heap.size w w1) := HB00.out.trans (hb1.mono HB00.out.size)
  have g1 : w1.cell? ⟨w.heap.size, 1, none⟩ = some (.int .i64 L) := (World.cell?_of_block (a := ⟨w.heap.size, 1, none⟩) (hb1.block _ (by rw [HS0.out]; exact Nat.lt_succ_self _))).trans f1
  clear hh hb1 HG f0 f1 f2 f3 f4
  go_wp2
  go_ret
  exact ⟨rfl, HB1.out⟩
set_option maxHeartbeats 1600000 in
set_option maxRecDepth 100000 in
theorem th_1 (dg L n : Int) (ea na pa : Option Addr) (en ec nn nc pn pc : Nat) (w : World) (k : Hid (Good dg L en nn pn)) (c0 : 40 < L) :
    Calls Tryd.prog 5 #[.agg #[.int .i64 dg, .int .i64 L, .slice ea en ec, .slice na nn nc, .slice pa pn pc], .int .i64 n] w fun e w' => e = .returned (.bool true) ∧ Below w.heap.size w w' := by
  have q0 : decide (40 < L) = true := by simp; omega
  obtain ⟨w0, hw0⟩ : ∃ w0, w0 = w.alloc (.cells #[.int .i64 dg, .int .i64 L, .slice ea en ec, .slice na nn nc, .slice pa pn pc] 24) := ⟨_, rfl⟩
  have HB00 : Hid (Below w.heap.size w w0) := by rw [hw0]; exact (Below.refl _ _).alloc (Nat.le_refl _) _
  have HS0 : Hid (w0.heap.size = w.heap.size + 1) := by rw [hw0]; exact size_alloc1 _ _
  have F : ∀ j v, (#[.int .i64 dg, .int .i64 L, .slice ea en ec, .slice na nn nc, .slice pa pn pc] : Array Value)[j]? = some v → w0.cell? ⟨w.heap.size, j, none⟩ = some v := fun j v hj => by
    rw [hw0, World.cell?_alloc_at _ 24 _ _ rfl]
    exact hj
  have f0 := F 0 _ rfl
  have f1 := F 1 _ rfl
  have f2 := F 2 _ rfl
  have f3 := F 3 _ rfl
  have f4 := F 4 _ rfl
  clear F
  have HG : Hid (Calls Tryd.prog 8 #[.agg #[.int .i64 dg, .int .i64 L, .slice ea en ec, .slice na nn nc, .slice pa pn pc]] w0 fun e w' => Hid (e = .returned (.bool true) ∧ Below w0.heap.size w0 w')) := by
    refine (good_any dg L ea na pa en ec nn nc pn pc w0).mono ?_
    rintro e w' ⟨G, q1, q2, q3⟩
    refine ⟨?_, q3⟩
    cases G
    · exact absurd (q2.2 k.out) (by simp)
    · exact q1
  go_enter Tryd.func5, Tryd.ntmps5
  go_upto_region 1 with fail
  rw [← hw0]
  clear hw0
  go_wp2_with (go_at_call 8; refine HG.out.mono ?_)
  intro e1 w1 hh
  obtain ⟨rfl, hb1⟩ := hh.out
  have HB1 : Hid (Below w.heap.size w w1) := HB00.out.trans (hb1.mono HB00.out.size)
  have g1 : w1.cell? ⟨w.heap.size, 1, none⟩ = some (.int .i64 L) := (World.cell?_of_block (a := ⟨w.heap.size, 1, none⟩) (hb1.block _ (by rw [HS0.out]; exact Nat.lt_succ_self _))).trans f1
  clear hh hb1 HG f0 f1 f2 f3 f4
  go_wp2
  go_ret
  exact ⟨rfl, HB1.out⟩
set_option maxHeartbeats 1600000 in
set_option maxRecDepth 100000 in
theorem th_2 (dg L n : Int) (ea na pa : Option Addr) (en ec nn nc pn pc : Nat) (w : World) (k : Hid (Good dg L en nn pn)) (c0 : ¬ 40 < L) (c1 : n < 0) :
    Calls Tryd.prog 5 #[.agg #[.int .i64 dg, .int .i64 L, .slice ea en ec, .slice na nn nc, .slice pa pn pc], .int .i64 n] w fun e w' => e = .returned (.bool true) ∧ Below w.heap.size w w' := by
  have q0 : decide (40 < L) = false := by simp; omega
  have q1 : decide (n < 0) = true := by simp; omega
  obtain ⟨w0, hw0⟩ : ∃ w0, w0 = w.alloc (.cells #[.int .i64 dg, .int .i64 L, .slice ea en ec, .slice na nn nc, .slice pa pn pc] 24) := ⟨_, rfl⟩
  have HB00 : Hid (Below w.heap.size w w0) := by rw [hw0]; exact (Below.refl _ _).alloc (Nat.le_refl _) _
  have HS0 : Hid (w0.heap.size = w.heap.size + 1) := by rw [hw0]; exact size_alloc1 _ _
  have F : ∀ j v, (#[.int .i64 dg, .int .i64 L, .slice ea en ec, .slice na nn nc, .slice pa pn pc] : Array Value)[j]? = some v → w0.cell? ⟨w.heap.size, j, none⟩ = some v := fun j v hj => by
    rw [hw0, World.cell?_alloc_at _ 24 _ _ rfl]
    exact hj
  have f0 := F 0 _ rfl
  have f1 := F 1 _ rfl
  have f2 := F 2 _ rfl
  have f3 := F 3 _ rfl
  have f4 := F 4 _ rfl
  clear F
  have HG : Hid (Calls Tryd.prog 8 #[.agg #[.int .i64 dg, .int .i64 L, .slice ea en ec, .slice na nn nc, .slice pa pn pc]] w0 fun e w' => Hid (e = .returned (.bool true) ∧ Below w0.heap.size w0 w')) := by
    refine (good_any dg L ea na pa en ec nn nc pn pc w0).mono ?_
    rintro e w' ⟨G, q1, q2, q3⟩
    refine ⟨?_, q3⟩
    cases G
    · exact absurd (q2.2 k.out) (by simp)
    · exact q1
  go_enter Tryd.func5, Tryd.ntmps5
  go_upto_region 1 with fail
  rw [← hw0]
  clear hw0
  go_wp2_with (go_at_call 8; refine HG.out.mono ?_)
  intro e1 w1 hh
  obtain ⟨rfl, hb1⟩ := hh.out
  have HB1 : Hid (Below w.heap.size w w1) := HB00.out.trans (hb1.mono HB00.out.size)
  have g1 : w1.cell? ⟨w.heap.size, 1, none⟩ = some (.int .i64 L) := (World.cell?_of_block (a := ⟨w.heap.size, 1, none⟩) (hb1.block _ (by rw [HS0.out]; exact Nat.lt_succ_self _))).trans f1
  clear hh hb1 HG f0 f1 f2 f3 f4
  go_wp2
  go_ret
  exact ⟨rfl, HB1.out⟩
set_option maxHeartbeats 1600000 in
set_option maxRecDepth 100000 in
theorem th_3 (dg L n : Int) (ea na pa : Option Addr) (en ec nn nc pn pc : Nat) (w : World) (k : Hid (Good dg L en nn pn)) (c0 : ¬ 40 < L) (c1 : ¬ n < 0) (c2 : 64 < n) :
    Calls Tryd.prog 5 #[.agg #[.int .i64 dg, .int .i64 L, .slice ea en ec, .slice na nn nc, .slice pa pn pc], .int .i64 n] w fun e w' => e = .returned (.bool true) ∧ Below w.heap.size w w' := by
  have q0 : decide (40 < L) = false := by simp; omega
  have q1 : decide (n < 0) = false := by simp; omega
  have q2 : decide (64 < n) = true := by simp; omega
  obtain ⟨w0, hw0⟩ : ∃ w0, w0 = w.alloc (.cells #[.int .i64 dg, .int .i64 L, .slice ea en ec, .slice na nn nc, .slice pa pn pc] 24) := ⟨_, rfl⟩
  have HB00 : Hid (Below w.heap.size w w0) := by rw [hw0]; exact (Below.refl _ _).alloc (Nat.le_refl _) _
  have HS0 : Hid (w0.heap.size = w.heap.size + 1) := by rw [hw0]; exact size_alloc1 _ _
  have F : ∀ j v, (#[.int .i64 dg, .int .i64 L, .slice ea en ec, .slice na nn nc, .slice pa pn pc] : Array Value)[j]? = some v → w0.cell? ⟨w.heap.size, j, none⟩ = some v := fun j v hj => by
    rw [hw0, World.cell?_alloc_at _ 24 _ _ rfl]
    exact hj
  have f0 := F 0 _ rfl
  have f1 := F 1 _ rfl
  have f2 := F 2 _ rfl
  have f3 := F 3 _ rfl
  have f4 := F 4 _ rfl
  clear F
  have HG : Hid (Calls Tryd.prog 8 #[.agg #[.int .i64 dg, .int .i64 L, .slice ea en ec, .slice na nn nc, .slice pa pn pc]] w0 fun e w' => Hid (e = .returned (.bool true) ∧ Below w0.heap.size w0 w')) := by
    refine (good_any dg L ea na pa en ec nn nc pn pc w0).mono ?_
    rintro e w' ⟨G, q1, q2, q3⟩
    refine ⟨?_, q3⟩
    cases G
    · exact absurd (q2.2 k.out) (by simp)
    · exact q1
  go_enter Tryd.func5, Tryd.ntmps5
  go_upto_region 1 with fail
  rw [← hw0]
  clear hw0
  go_wp2_with (go_at_call 8; refine HG.out.mono ?_)
  intro e1 w1 hh
  obtain ⟨rfl, hb1⟩ := hh.out
  have HB1 : Hid (Below w.heap.size w w1) := HB00.out.trans (hb1.mono HB00.out.size)
  have g1 : w1.cell? ⟨w.heap.size, 1, none⟩ = some (.int .i64 L) := (World.cell?_of_block (a := ⟨w.heap.size, 1, none⟩) (hb1.block _ (by rw [HS0.out]; exact Nat.lt_succ_self _))).trans f1
  clear hh hb1 HG f0 f1 f2 f3 f4
  go_wp2
  go_ret
  exact ⟨rfl, HB1.out⟩
/-- Only what is above w, and not the seed's block, changed. -/
def Kt (w w0 u : World) : Prop := Below w.heap.size w u ∧ u.heap[w.heap.size]? = w0.heap[w.heap.size]?
theorem Kt.touch {w w0 u v : World} {g o n : Nat} (h : Kt w w0 u) (t : Touch u v g o n) (hg : w.heap.size < g) (hu : g < u.heap.size) : Kt w w0 v :=
  ⟨h.1.trans (t.toBelow (Nat.le_of_lt hg) h.1.size), (t.block _ (by omega) (by omega)).trans h.2⟩
theorem Kt.below {w w0 u v : World} (h : Kt w w0 u) (b : Below u.heap.size u v) (hu : w.heap.size < u.heap.size) : Kt w w0 v :=
  ⟨h.1.trans (b.mono h.1.size), (b.block _ hu).trans h.2⟩
theorem Kt.sm {w w0 u v : World} (h : Kt w w0 u) (s : Sm u v) : Kt w w0 v :=
  ⟨Below.ofSm h.1 s, by rw [s.heap]; exact h.2⟩
theorem SpAt.sm {w v : World} {g : Nat} {h : Int} {K V : Nat → Int} {L c : Int} (s : SpAt w g h K V L c) (m : Sm w v) : SpAt v g h K V L c := s.block (by rw [m.heap])
theorem Kt.cell {w w0 u : World} (h : Kt w w0 u) {j : Nat} {v : Value} (hv : w0.cell? ⟨w.heap.size, j, none⟩ = some v) : u.cell? ⟨w.heap.size, j, none⟩ = some v := (World.cell?_of_block (a := ⟨w.heap.size, j, none⟩) h.2).trans hv
end Go.Proofs.YtkeklmkaleomkaaDoor
namespace Go.Proofs.YtkeklmkaleomkaaDoor
open Go.RowKit
set_option linter.unusedVariables false
set_option linter.unusedSimpArgs false
theorem num61 (w : World) : Calls Tryd.prog 10 #[.int .i64 61] w fun e w' => e = .returned (.int .i64 61) ∧ w' = w := by
  go_enter Tryd.func10, Tryd.ntmps10
  go_wp2
  go_ret
  exact ⟨rfl, rfl⟩
set_option maxHeartbeats 6400000 in
set_option maxRecDepth 100000 in
theorem th_good (dg L : Int) (n : Nat) (ea na pa : Option Addr) (en ec nn nc pn pc : Nat) (E N P : List Int) (w : World) (k : Hid (Good dg L en nn pn)) (hT : Hid (Tables w)) (he : Hid (View w (.slice ea en ec) E)) (hel : Hid (E.length = en)) (hn : Hid (View w (.slice na nn nc) N)) (hnl : Hid (N.length = nn)) (hp : Hid (View w (.slice pa pn pc) P)) (hpl : Hid (P.length = pn)) (hn5 : n ≤ 64) (hL1 : 1 ≤ L) (hL : L ≤ 40) :
    Calls Tryd.prog 5 #[.agg #[.int .i64 dg, .int .i64 L, .slice ea en ec, .slice na nn nc, .slice pa pn pc], .int .i64 (n : Nat)] w fun e w' => e = .returned (.bool true) ∧ Below w.heap.size w w' := by
  have hT4 := hT.out.size
  have HKn : Hid (Known dg) := k.out.1
  have HEn : Hid (16 ≤ en ∧ en ≤ 65536 ∧ nn ≤ 65536 ∧ pn ≤ 65536) := k.out.2.2.2
  have q0 : decide ((40 : Int) < L) = false := by simp; omega
  have q1 : decide (((n : Nat) : Int) < 0) = false := by simp
  have q2 : decide ((64 : Int) < (n : Nat)) = false := by simp; omega
  obtain ⟨w0, hw0⟩ : ∃ w0, w0 = w.alloc (.cells #[.int .i64 dg, .int .i64 L, .slice ea en ec, .slice na nn nc, .slice pa pn pc] 24) := ⟨_, rfl⟩
  have HB00 : Hid (Below w.heap.size w w0) := by rw [hw0]; exact (Below.refl _ _).alloc (Nat.le_refl _) _
  have HS0 : Hid (w0.heap.size = w.heap.size + 1) := by rw [hw0]; exact size_alloc1 _ _
  have F : ∀ j v, (#[.int .i64 dg, .int .i64 L, .slice ea en ec, .slice na nn nc, .slice pa pn pc] : Array Value)[j]? = some v → w0.cell? ⟨w.heap.size, j, none⟩ = some v := fun j v hj => by
    rw [hw0, World.cell?_alloc_at _ 24 _ _ rfl]
    exact hj
  have f0 := F 0 _ rfl
  have f1 := F 1 _ rfl
  have f2 := F 2 _ rfl
  have f3 := F 3 _ rfl
  have f4 := F 4 _ rfl
  clear F
  have HG : Hid (Calls Tryd.prog 8 #[.agg #[.int .i64 dg, .int .i64 L, .slice ea en ec, .slice na nn nc, .slice pa pn pc]] w0 fun e w' => Hid (e = .returned (.bool true) ∧ Below w0.heap.size w0 w')) := by
    refine (good_any dg L ea na pa en ec nn nc pn pc w0).mono ?_
    rintro e w' ⟨G, q1, q2, q3⟩
    refine ⟨?_, q3⟩
    cases G
    · exact absurd (q2.2 k.out) (by simp)
    · exact q1
  have HNew : Hid (∀ u, Below w.heap.size w u → Calls Tryd.prog 9 #[.int .i64 dg, .int .i64 L, .slice ea en ec, .slice na nn nc, .slice pa pn pc] u fun e w' => Hid (∃ g, ∃ K V, e = .returned (.tuple #[.pointer (some ⟨g, 0, none⟩), .int .i64 0]) ∧ u.heap.size ≤ g ∧ SpAt w' g dg K V L 0 ∧ Below u.heap.size u w')) := fun u hu => by
    refine (spnew dg L ea na pa en ec nn nc pn pc E N P u HKn (hT.out.below hu hT4) hL1 (by omega) (he.out.kept fun b hb => hu.block b hb) hel (hn.out.kept fun b hb => hu.block b hb) hnl (hp.out.kept fun b hb => hu.block b hb) hpl HEn.out.1 HEn.out.2.1 HEn.out.2.2.1 HEn.out.2.2.2).mono ?_
    rintro e w' ⟨g, r1, r2, r3, r4⟩
    exact ⟨g, _, _, r1, r2, r3, r4⟩
  have HF : Hid (w0.cell? ⟨w.heap.size, 0, none⟩ = some (.int .i64 dg) ∧ w0.cell? ⟨w.heap.size, 1, none⟩ = some (.int .i64 L) ∧ w0.cell? ⟨w.heap.size, 2, none⟩ = some (.slice ea en ec) ∧ w0.cell? ⟨w.heap.size, 3, none⟩ = some (.slice na nn nc) ∧ w0.cell? ⟨w.heap.size, 4, none⟩ = some (.slice pa pn pc)) := ⟨f0, f1, f2, f3, f4⟩
  have HDr : Hid (∀ (u : World) (gg j : Nat) (c : Int) (K V : Nat → Int), j ≤ 64 → Kt w w0 u → w.heap.size < gg → SpAt u gg dg K V L c → 0 ≤ c → c < L → Calls Tryd.prog 12 #[.pointer (some ⟨gg, 0, none⟩), .int .i64 (j), .slice none 0 0] u fun e w' => Hid (∃ b, e = .returned (.tuple #[.slice (some ⟨b, 0, none⟩) j j, .int .i64 0]) ∧ u.heap.size ≤ b ∧ View w' (.slice (some ⟨b, 0, none⟩) j j) (fL (drO dg K V []) j) ∧ SpAt w' gg dg (drK dg K V [] j) (drV dg K V [] j) L (c + 1) ∧ Touch u w' gg 0 131)) := fun u gg j c K V hj hu hg hs hc0 hc1 => by
    have q := spdraw gg dg K V L c j (.slice none 0 0) [] u HKn hs (hT.out.below hu.1 hT4) (.inl ⟨rfl, rfl⟩) (by show _ ≤ _; simp) (by show _ ≤ _; simp) (by omega) (by omega) (by omega) hc0 (by omega)
    exact q
  have HFd : Hid (∀ (u : World) (gg : Nat) (K V : Nat → Int), Kt w w0 u → w.heap.size < gg → SpAt u gg dg K V L L → Calls Tryd.prog 14 #[.pointer (some ⟨gg, 0, none⟩), .slice ea en ec, .slice none 0 0] u fun e w' => Hid (e = .returned (.int .i64 0) ∧ SpAt w' gg dg (updK dg K V E) (updV dg K V E) L 0 ∧ Touch u w' gg 0 131)) := fun u gg K V hu hg hs => by
    have q := spfeed gg dg K V L L ea en ec E (.slice none 0 0) [] u HKn hs (hT.out.below hu.1 hT4) (he.out.kept fun b hb => hu.1.block b hb) hel (fun h0 b off l c e => by have := view_lt he.out h0 b off l c e; omega) HEn.out.1 HEn.out.2.1 (.inl ⟨rfl, rfl⟩) (by show _ ≤ _; simp) (by show _ ≤ _; simp) (by omega)
    have e1 : E ++ ([] : List (List Int)).flatten = E := by simp
    rw [e1] at q
    exact q
  have HCp : Hid (∀ (u : World) (gg : Nat) (c : Int) (K V : Nat → Int), SpAt u gg dg K V L c → Calls Tryd.prog 11 #[.pointer (some ⟨gg, 0, none⟩)] u fun e w' => Hid (∃ g', e = .returned (.pointer (some ⟨g', 0, none⟩)) ∧ u.heap.size ≤ g' ∧ SpAt w' g' dg K V L c ∧ Below u.heap.size u w')) := fun u gg c K V hs => spcopy gg dg K V L c u hs
  go_enter Tryd.func5, Tryd.ntmps5
  go_upto_region 1 with fail
  rw [← hw0]
  clear hw0
  go_wp2_with (go_at_call 8; refine HG.out.mono ?_)
  intro e1 w1 hh
  obtain ⟨rfl, hb1⟩ := hh.out
  have HB1 : Hid (Kt w w0 w1 ∧ w.heap.size < w1.heap.size) := ⟨⟨HB00.out.trans (hb1.mono HB00.out.size), hb1.block _ (by rw [HS0.out]; exact Nat.lt_succ_self _)⟩, by have := hb1.size; rw [HS0.out] at this; omega⟩
  clear hh hb1 HG f0 f1 f2 f3 f4
  have g0 := HB1.out.1.cell HF.out.1
  have g1 := HB1.out.1.cell HF.out.2.1
  have g2 := HB1.out.1.cell HF.out.2.2.1
  have g3 := HB1.out.1.cell HF.out.2.2.2.1
  have g4 := HB1.out.1.cell HF.out.2.2.2.2
  go_wp2_with (go_at_call 9; refine (HNew.out w1 HB1.out.1.1).mono ?_)
  intro e2 w2 hh
  obtain ⟨g, K0, V0, rfl, hg2, hs2, hb2⟩ := hh.out
  have HGg : Hid (w.heap.size < g) := by have := HB1.out.2; exact Nat.lt_of_lt_of_le this hg2
  have HS2 : Hid (SpAt w2 g dg K0 V0 L 0 ∧ Kt w w0 w2) := ⟨hs2, HB1.out.1.below hb2 HB1.out.2⟩
  clear hh hg2 hs2 hb2 HB1 HNew g0 g1 g2 g3 g4
  go_wp2_with (go_at_call 10; refine (num0 _).mono ?_; rintro e1 wx ⟨rfl, hwx⟩; obtain rfl := hwx.symm)
  go_loopw [7] (fun vt wr => ∃ t : Nat, ∃ K V : Nat → Int, vt = .int .i64 (t : Nat) ∧ t ≤ 2 ∧ Hid (SpAt wr g dg K V L 0 ∧ Kt w w0 wr)) (fun vt _ => 2 - (intOf vt).toNat)
  case atStart => exact ⟨0, K0, V0, rfl, by omega, HS2.out⟩
  case round =>
    obtain ⟨t, K, V, rfl, ht, HR⟩ := hrel
    clear HS2
    by_cases htl : (t : Int) < 2
    · go_wp2
      go_loopw [8] (fun vi wx => ∃ i : Nat, ∃ K V : Nat → Int, vi = .int .i64 (i : Nat) ∧ (i : Int) ≤ L ∧ Hid (SpAt wx g dg K V L (i : Nat) ∧ Kt w w0 wx)) (fun vi _ => L.toNat - (intOf vi).toNat)
      case atStart => exact ⟨0, K, V, rfl, by omega, HR.out⟩
      case round =>
        obtain ⟨i, Ki, Vi, rfl, hi, HRi⟩ := hrel
        clear HR
        by_cases hlt : (i : Int) < L
        · have g1 := HRi.out.2.cell HF.out.2.1
          have hil : ¬ (i : Int) < 0 := by omega
          have HLf : Hid (∀ m, Calls Tryd.prog 16 #[.pointer (some ⟨g, 0, none⟩)] (wr.drewN m) fun e w' => e = .returned (.int .i64 (L - (i : Nat))) ∧ ∃ m', w' = (wr.drewN m).drewN m') := fun m => spleft g dg Ki Vi L (i : Nat) (wr.drewN m) (HRi.out.1.sm ((Sm.refl wr).drewN m)) (by omega) (by omega) (by omega) (by omega)
          go_upto_region 12 with fail
          go_quiet (first | (go_at_call 16; refine Calls.quiet_of (HLf.out _)))
          have HQ : Hid (SpAt (wr.drewN nq) g dg Ki Vi L (i : Nat) ∧ Kt w w0 (wr.drewN nq)) := ⟨HRi.out.1.sm ((Sm.refl wr).drewN nq), HRi.out.2.sm ((Sm.refl wr).drewN nq)⟩
          generalize wr.drewN nq = wq at HQ ⊢
          clear HRi HLf g1
          have HD := HDr.out wq g n (i : Nat) Ki Vi hn5 HQ.out.2 HGg.out HQ.out.1 (by omega) hlt
          have HDH : Hid (Calls Tryd.prog 12 #[.pointer (some ⟨g, 0, none⟩), .int .i64 (n), .slice none 0 0] wq fun e w' => Hid (∃ b, e = .returned (.tuple #[.slice (some ⟨b, 0, none⟩) n n, .int .i64 0]) ∧ wq.heap.size ≤ b ∧ View w' (.slice (some ⟨b, 0, none⟩) n n) (fL (drO dg Ki Vi []) n) ∧ SpAt w' g dg (drK dg Ki Vi [] n) (drV dg Ki Vi [] n) L ((i : Nat) + 1) ∧ Touch wq w' g 0 131)) := HD
          clear HD
          go_wp2_with (go_at_call 12; refine HDH.out.mono ?_)
          intro e3 w3 hh
          obtain ⟨b, rfl, hb3, hv3, hs3, ht3⟩ := hh.out
          have H3 : Hid (SpAt w3 g dg (drK dg Ki Vi [] n) (drV dg Ki Vi [] n) L ((i + 1 : Nat) : Int) ∧ Kt w w0 w3) := ⟨by have q := hs3; rw [show ((i : Nat) : Int) + 1 = ((i + 1 : Nat) : Int) by omega] at q; exact q, HQ.out.2.touch ht3 HGg.out HQ.out.1.lt⟩
          clear hh hb3 hv3 hs3 ht3 HDH HQ
          go_wp2_with (go_at_call 10; refine (num0 _).mono ?_; rintro e1 wx ⟨rfl, hwx⟩; obtain rfl := hwx.symm)
          go_roundw
          case rel => exact ⟨i + 1, _, _, by go_num, by omega, H3.out⟩
          case measure => simp [intOf]; omega
        · have hiL : (i : Int) = L := by omega
          have HR2 : Hid (SpAt wr g dg Ki Vi L L ∧ Kt w w0 wr) := ⟨by have q := HRi.out.1; rw [hiL] at q; exact q, HRi.out.2⟩
          have g1 := HRi.out.2.cell HF.out.2.1
          clear HRi
          have HC := HCp.out wr g L Ki Vi HR2.out.1
          have HCH : Hid (Calls Tryd.prog 11 #[.pointer (some ⟨g, 0, none⟩)] wr fun e w' => Hid (∃ g', e = .returned (.pointer (some ⟨g', 0, none⟩)) ∧ wr.heap.size ≤ g' ∧ SpAt w' g' dg Ki Vi L L ∧ Below wr.heap.size wr w')) := HC
          clear HC
          clear hiL
          go_wp2_with (go_at_call 11; refine HCH.out.mono ?_)
          intro e3 w3 hh
          obtain ⟨g', rfl, hg3, hs3, hb3⟩ := hh.out
          have H3 : Hid (SpAt w3 g dg Ki Vi L L ∧ SpAt w3 g' dg Ki Vi L L ∧ Kt w w0 w3 ∧ g < g') := ⟨HR2.out.1.below hb3, hs3, HR2.out.2.below hb3 (by have := HR2.out.1.lt; have := HGg.out; omega), by have := HR2.out.1.lt; omega⟩
          clear hh hg3 hs3 hb3 HCH HR2 g1
          have HTh : Hid (Calls Tryd.prog 12 #[.pointer (some ⟨g, 0, none⟩), .int .i64 (n : Nat), .slice none 0 0] w3 fun e w' => Hid (e = .returned (.tuple #[.slice none 0 0, .int .i64 61]) ∧ ∃ m, w' = w3.drewN m)) := spthirst g dg Ki Vi L n w3 H3.out.1 (by omega)
          go_wp2_with (go_at_call 12; refine HTh.out.mono ?_)
          intro e4 w4 hh
          obtain ⟨rfl, m4, hw4⟩ := hh.out
          have s4 : Sm w3 w4 := by rw [hw4]; exact (Sm.refl w3).drewN m4
          have H4 : Hid (SpAt w4 g dg Ki Vi L L ∧ SpAt w4 g' dg Ki Vi L L ∧ Kt w w0 w4 ∧ g < g') := ⟨H3.out.1.sm s4, H3.out.2.1.sm s4, H3.out.2.2.1.sm s4, H3.out.2.2.2⟩
          clear hh hw4 s4 H3 HTh
          have HLf : Hid (Calls Tryd.prog 16 #[.pointer (some ⟨g, 0, none⟩)] w4 fun e w' => Hid (e = .returned (.int .i64 0) ∧ ∃ m', w' = w4.drewN m')) := by
            have q := spleft g dg Ki Vi L L w4 H4.out.1 (by omega) (by omega) (by omega) (by omega)
            rw [Int.sub_self] at q
            exact q
          go_wp2_with (first | (go_at_call 10; refine (num61 _).mono ?_; rintro e1 wx ⟨rfl, hwx⟩; obtain rfl := hwx.symm) | (go_at_call 16; refine HLf.out.mono ?_))
          intro e5 w5 hh
          obtain ⟨rfl, m5, hw5⟩ := hh.out
          have s5 : Sm w4 w5 := by rw [hw5]; exact (Sm.refl w4).drewN m5
          have H5 : Hid (SpAt w5 g dg Ki Vi L L ∧ SpAt w5 g' dg Ki Vi L L ∧ Kt w w0 w5 ∧ g < g') := ⟨H4.out.1.sm s5, H4.out.2.1.sm s5, H4.out.2.2.1.sm s5, H4.out.2.2.2⟩
          clear hh hw5 s5 H4 HLf
          have g2 := H5.out.2.2.1.cell HF.out.2.2.1
          have HF1 : Hid (Calls Tryd.prog 14 #[.pointer (some ⟨g, 0, none⟩), .slice ea en ec, .slice none 0 0] w5 fun e w' => Hid (e = .returned (.int .i64 0) ∧ SpAt w' g dg (updK dg Ki Vi E) (updV dg Ki Vi E) L 0 ∧ Touch w5 w' g 0 131)) := HFd.out w5 g Ki Vi H5.out.2.2.1 HGg.out H5.out.1
          go_wp2_with (go_at_call 14; refine HF1.out.mono ?_)
          intro e6 w6 hh
          obtain ⟨rfl, hs6, ht6⟩ := hh.out
          have H6 : Hid (SpAt w6 g dg (updK dg Ki Vi E) (updV dg Ki Vi E) L 0 ∧ SpAt w6 g' dg Ki Vi L L ∧ Kt w w0 w6 ∧ g < g') := ⟨hs6, H5.out.2.1.block (ht6.block _ H5.out.2.1.lt (by have := H5.out.2.2.2; omega)), H5.out.2.2.1.touch ht6 HGg.out H5.out.1.lt, H5.out.2.2.2⟩
          clear hh hs6 ht6 H5 HF1 g2
          have g2 := H6.out.2.2.1.cell HF.out.2.2.1
          have HF2 : Hid (Calls Tryd.prog 14 #[.pointer (some ⟨g', 0, none⟩), .slice ea en ec, .slice none 0 0] w6 fun e w' => Hid (e = .returned (.int .i64 0) ∧ SpAt w' g' dg (updK dg Ki Vi E) (updV dg Ki Vi E) L 0 ∧ Touch w6 w' g' 0 131)) := HFd.out w6 g' Ki Vi H6.out.2.2.1 (by have := H6.out.2.2.2; have := HGg.out; omega) H6.out.2.1
          go_wp2_with (first | (go_at_call 10; refine (num0 _).mono ?_; rintro e1 wx ⟨rfl, hwx⟩; obtain rfl := hwx.symm) | (go_at_call 14; refine HF2.out.mono ?_))
          intro e7 w7 hh
          obtain ⟨rfl, hs7, ht7⟩ := hh.out
          obtain ⟨K1, HK1⟩ : ∃ K1, Hid (K1 = updK dg Ki Vi E) := ⟨_, rfl⟩
          obtain ⟨V1, HV1⟩ : ∃ V1, Hid (V1 = updV dg Ki Vi E) := ⟨_, rfl⟩
          have H7 : Hid (SpAt w7 g dg K1 V1 L 0 ∧ SpAt w7 g' dg K1 V1 L 0 ∧ Kt w w0 w7 ∧ g < g') := by
            rw [HK1.out, HV1.out]
            exact ⟨H6.out.1.block (ht7.block _ H6.out.1.lt (by have := H6.out.2.2.2; omega)), hs7, H6.out.2.2.1.touch ht7 (by have := H6.out.2.2.2; have := HGg.out; omega) H6.out.2.1.lt, H6.out.2.2.2⟩
          clear hh hs7 ht7 H6 HF2 g2 HK1 HV1
          have HC := HCp.out w7 g 0 K1 V1 H7.out.1
          have HCH : Hid (Calls Tryd.prog 11 #[.pointer (some ⟨g, 0, none⟩)] w7 fun e w' => Hid (∃ g', e = .returned (.pointer (some ⟨g', 0, none⟩)) ∧ w7.heap.size ≤ g' ∧ SpAt w' g' dg K1 V1 L 0 ∧ Below w7.heap.size w7 w')) := HC
          clear HC
          go_wp2_with (first | (go_at_call 10; refine (num0 _).mono ?_; rintro e1 wx ⟨rfl, hwx⟩; obtain rfl := hwx.symm) | (go_at_call 11; refine HCH.out.mono ?_))
          intro e8 w8 hh
          obtain ⟨g8, rfl, hg8, hs8, hb8⟩ := hh.out
          have H8 : Hid (SpAt w8 g dg K1 V1 L 0 ∧ SpAt w8 g' dg K1 V1 L 0 ∧ SpAt w8 g8 dg K1 V1 L 0 ∧ Kt w w0 w8 ∧ g < g' ∧ g' < g8) := ⟨H7.out.1.below hb8, H7.out.2.1.below hb8, hs8, H7.out.2.2.1.below hb8 (by have := H7.out.1.lt; have := HGg.out; omega), H7.out.2.2.2, by have := H7.out.2.1.lt; omega⟩
          clear hh hg8 hs8 hb8 H7 HCH
          have HD8 : Hid (Calls Tryd.prog 12 #[.pointer (some ⟨g8, 0, none⟩), .int .i64 ((32 : Nat)), .slice none 0 0] w8 fun e w' => Hid (∃ b, e = .returned (.tuple #[.slice (some ⟨b, 0, none⟩) (32 : Nat) (32 : Nat), .int .i64 0]) ∧ w8.heap.size ≤ b ∧ View w' (.slice (some ⟨b, 0, none⟩) (32 : Nat) (32 : Nat)) (fL (drO dg K1 V1 []) (32 : Nat)) ∧ SpAt w' g8 dg (drK dg K1 V1 [] (32 : Nat)) (drV dg K1 V1 [] (32 : Nat)) L (0 + 1) ∧ Touch w8 w' g8 0 131)) := HDr.out w8 g8 32 0 K1 V1 (by omega) H8.out.2.2.2.1 (by have := H8.out.2.2.2.2; have := HGg.out; omega) H8.out.2.2.1 (by omega) (by omega)
          go_wp2_with (go_at_call 12; refine HD8.out.mono ?_)
          intro e9 w9 hh
          obtain ⟨bx, rfl, hb9, hv9, hs9, ht9⟩ := hh.out
          have H9 : Hid (SpAt w9 g dg K1 V1 L 0 ∧ SpAt w9 g' dg K1 V1 L 0 ∧ Kt w w0 w9 ∧ g < g' ∧ View w9 (.slice (some ⟨bx, 0, none⟩) 32 32) (fL (drO dg K1 V1 []) 32) ∧ g' < bx) := ⟨H8.out.1.block (ht9.block _ H8.out.1.lt (by have := H8.out.2.2.2.2; omega)), H8.out.2.1.block (ht9.block _ H8.out.2.1.lt (by have := H8.out.2.2.2.2; omega)), H8.out.2.2.2.1.touch ht9 (by have := H8.out.2.2.2.2; have := HGg.out; omega) H8.out.2.2.1.lt, H8.out.2.2.2.2.1, hv9, by have := H8.out.2.1.lt; omega⟩
          clear hh hb9 hv9 hs9 ht9 H8 HD8
          have HD9 : Hid (Calls Tryd.prog 12 #[.pointer (some ⟨g', 0, none⟩), .int .i64 ((32 : Nat)), .slice none 0 0] w9 fun e w' => Hid (∃ b, e = .returned (.tuple #[.slice (some ⟨b, 0, none⟩) (32 : Nat) (32 : Nat), .int .i64 0]) ∧ w9.heap.size ≤ b ∧ View w' (.slice (some ⟨b, 0, none⟩) (32 : Nat) (32 : Nat)) (fL (drO dg K1 V1 []) (32 : Nat)) ∧ SpAt w' g' dg (drK dg K1 V1 [] (32 : Nat)) (drV dg K1 V1 [] (32 : Nat)) L (0 + 1) ∧ Touch w9 w' g' 0 131)) := HDr.out w9 g' 32 0 K1 V1 (by omega) H9.out.2.2.1 (by have := H9.out.2.2.2.1; have := HGg.out; omega) H9.out.2.1 (by omega) (by omega)
          go_wp2_with (go_at_call 12; refine HD9.out.mono ?_)
          intro e10 w10 hh
          obtain ⟨bz, rfl, hb10, hv10, hs10, ht10⟩ := hh.out
          have H10 : Hid (SpAt w10 g dg K1 V1 L 0 ∧ Kt w w0 w10 ∧ View w10 (.slice (some ⟨bx, 0, none⟩) 32 32) (fL (drO dg K1 V1 []) 32) ∧ View w10 (.slice (some ⟨bz, 0, none⟩) 32 32) (fL (drO dg K1 V1 []) 32)) := ⟨H9.out.1.block (ht10.block _ H9.out.1.lt (by have := H9.out.2.2.2.1; omega)), H9.out.2.2.1.touch ht10 (by have := H9.out.2.2.2.1; have := HGg.out; omega) H9.out.2.1.lt, ht10.view H9.out.2.2.2.2.1 (fun b' off l c' e => .inl (by injection e with e1 _ _; injection e1 with e1; injection e1 with e2 _; have := H9.out.2.2.2.2.2; omega)), hv10⟩
          clear hh hb10 hv10 hs10 ht10 H9 HD9
          have HS13 : Hid (∀ u : World, Sm w10 u → Calls Tryd.prog 13 #[.slice (some ⟨bx, 0, none⟩) 32 32, .slice (some ⟨bz, 0, none⟩) 32 32] u fun e w' => Hid (e = .returned (.bool true) ∧ Sm w10 w')) := fun u hu => by
            refine (same_yes _ _ _ u (hu.view H10.out.2.2.1) (hu.view H10.out.2.2.2)).mono ?_
            rintro e w' ⟨q1, q2⟩
            exact ⟨q1, hu.trans q2⟩
          go_wp2_with (first | (go_at_call 10; refine (num0 _).mono ?_; rintro e1 wx ⟨rfl, hwx⟩; obtain rfl := hwx.symm) | (go_at_call 13; refine (HS13.out _ (Sm.refl _)).mono ?_))
          intro e11 w11 hh
          obtain ⟨rfl, hs11⟩ := hh.out
          have H11 : Hid (SpAt w11 g dg K1 V1 L 0 ∧ Kt w w0 w11) := ⟨H10.out.1.sm hs11, H10.out.2.1.sm hs11⟩
          clear hh hs11 H10 HS13
          go_wp2
          go_roundw
          case rel => exact ⟨t + 1, K1, V1, by go_num, by omega, H11.out⟩
          case measure => simp [intOf]; omega
    · have HE : Hid (Below w.heap.size w wr) := HR.out.2.1
      clear HR
      go_wp2
      go_ret
      exact ⟨rfl, HE.out⟩
theorem th_ok (dg L n : Int) (ea na pa : Option Addr) (en ec nn nc pn pc : Nat) (E N P : List Int) (w : World) (hT : Tables w) (he : View w (.slice ea en ec) E) (hel : E.length = en) (hn : View w (.slice na nn nc) N) (hnl : N.length = nn) (hp : View w (.slice pa pn pc) P) (hpl : P.length = pn) :
    Calls Tryd.prog 5 #[.agg #[.int .i64 dg, .int .i64 L, .slice ea en ec, .slice na nn nc, .slice pa pn pc], .int .i64 n] w fun e w' => e = .returned (.bool true) ∧ Below w.heap.size w w' := by
  by_cases k : Good dg L en nn pn
  · by_cases c0 : 40 < L
    · exact th_1 dg L n ea na pa en ec nn nc pn pc w k c0
    by_cases c1 : n < 0
    · exact th_2 dg L n ea na pa en ec nn nc pn pc w k c0 c1
    by_cases c2 : 64 < n
    · exact th_3 dg L n ea na pa en ec nn nc pn pc w k c0 c1 c2
    obtain ⟨n', rfl⟩ : ∃ m : Nat, n = m := ⟨n.toNat, by omega⟩
    exact th_good dg L n' ea na pa en ec nn nc pn pc E N P w k hT he hel hn hnl hp hpl (by omega) k.2.1 (by omega)
  · exact th_0 dg L n ea na pa en ec nn nc pn pc w k
end Go.Proofs.YtkeklmkaleomkaaDoor
