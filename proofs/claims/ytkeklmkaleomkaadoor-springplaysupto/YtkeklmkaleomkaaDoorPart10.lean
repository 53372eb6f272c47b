import Derived.Test.YtkeklmkaleomkaaDoorPart08
import Derived.Test.YtkeklmkaleomkaaDoorPart09
import Derived.BigQuiet
import Derived.Test.YtkeklmkaleomkaaDoorPart04
import Derived.Test.YtkeklmkaleomkaaDoorPart00
import Derived.ArgAppend
namespace Go.Proofs.YtkeklmkaleomkaaDoor
open Go.RowKit
set_option linter.unusedVariables false
set_option linter.unusedSimpArgs false
set_option maxHeartbeats 800000 in
/-- Left. -/
theorem spleft (g : Nat) (dg : Int) (K V : Nat → Int) (L c : Int) (w : World) (hs : Hid (SpAt w g dg K V L c)) (h0 : 0 ≤ c) (h1 : c ≤ 16777216) (h2 : 0 ≤ L) (h3 : L ≤ 16777216) :
    Calls Tryd.prog 16 #[.pointer (some ⟨g, 0, none⟩)] w fun e w' => e = .returned (.int .i64 (L - c)) ∧ ∃ m, w' = w.drewN m := by
  have c1 : w.cell? ⟨g, 129, none⟩ = some (.int .i64 L) := hs.out.lim
  have c2 : w.cell? ⟨g, 130, none⟩ = some (.int .i64 c) := hs.out.cnt
  go_enter Tryd.func16, Tryd.ntmps16
  go_upto_region 3 with fail
  go_quiet (fail)
  go_wp2
  go_ret
  exact ⟨rfl, _, rfl⟩
set_option maxHeartbeats 1600000 in
set_option maxRecDepth 100000 in
/-- Draw, when it has to be fed. -/
theorem spthirst (g : Nat) (dg : Int) (K V : Nat → Int) (L : Int) (n : Nat) (w : World) (hs : Hid (SpAt w g dg K V L L)) (hn : n ≤ 65536) :
    Calls Tryd.prog 12 #[.pointer (some ⟨g, 0, none⟩), .int .i64 (n : Nat), .slice none 0 0] w fun e w' => e = .returned (.tuple #[.slice none 0 0, .int .i64 61]) ∧ ∃ m, w' = w.drewN m := by
  have HJ : Hid (∀ u, Calls Tryd.prog 25 #[.slice none 0 0] u fun e w' => e = .returned (.int .i64 0) ∧ w' = u) := fun u => joined_ok (u.heap.size + 1) (.slice none 0 0) [] u ⟨none, 0, rfl, by simp, by simp [maxLen], .inl rfl⟩ (by show _ ≤ _; simp)
  have c1 : w.cell? ⟨g, 129, none⟩ = some (.int .i64 L) := hs.out.lim
  have c2 : w.cell? ⟨g, 130, none⟩ = some (.int .i64 L) := hs.out.cnt
  have d1 : decide ((65536 : Int) < (n : Nat)) = false := by simp; omega
  have d3 : ¬ ((n : Nat) : Int) < 0 := by omega
  go_enter Tryd.func12, Tryd.ntmps12
  go_upto_region 7 with (go_at_call 25; refine (HJ.out _).mono ?_; rintro e5 w5 ⟨rfl, hw5⟩; obtain rfl := hw5.symm)
  go_quiet (fail)
  go_wp2
  go_ret2
  exact ⟨rfl, _, rfl⟩
set_option maxHeartbeats 1600000 in
set_option maxRecDepth 100000 in
/-- Feed, of what must be taken. -/
theorem spfeed (g : Nat) (dg : Int) (K V : Nat → Int) (L c : Int) (ea : Option Addr) (en ec : Nat) (E : List Int) (v : Value) (yss : List (List Int)) (w : World) (k : Hid (Known dg)) (hs : Hid (SpAt w g dg K V L c)) (hT : Hid (Tables w)) (he : Hid (View w (.slice ea en ec) E)) (hel : Hid (E.length = en)) (heg : Hid (E ≠ [] → ∀ b off l c, (.slice ea en ec : Value) = .slice (some ⟨b, off, none⟩) l c → b ≠ g)) (h1 : 16 ≤ en) (h2 : en ≤ 65536) (hp : Hid (PL w g v yss)) (hl : Hid (yss.flatten.length ≤ 65536)) (hlb : Hid ((3 + yss.length) * 24 ≤ 140737488355328)) (hg : 4 ≤ g) :
    Calls Tryd.prog 14 #[.pointer (some ⟨g, 0, none⟩), .slice ea en ec, v] w fun e w' => e = .returned (.int .i64 0) ∧ SpAt w' g dg (updK dg K V (E ++ yss.flatten)) (updV dg K V (E ++ yss.flatten)) L 0 ∧ Touch w w' g 0 131 := by
  obtain ⟨N, HNN⟩ : ∃ N, Hid (N = yss.flatten.length) := ⟨_, rfl⟩
  have hN : N ≤ 65536 := by rw [HNN.out]; exact hl.out
  have HJ : Hid (∀ u, PL u g v yss → Calls Tryd.prog 25 #[v] u fun e w' => e = .returned (.int .i64 (N : Nat)) ∧ w' = u) := fun u hu => by
    have q := joined_ok g v yss u hu.parts (by show _ ≤ _; have := hl.out; omega)
    rw [← HNN.out] at q
    exact q
  have d2 : decide ((65536 : Int) < (N : Nat)) = false := by simp; omega
  obtain ⟨W, hW⟩ : ∃ W, W = w.alloc (.cells #[.slice ea en ec] 22) := ⟨_, rfl⟩
  have hsW : W.heap.size = w.heap.size + 1 := by rw [hW]; simp
  have HBW : Hid (Below w.heap.size w W) := by rw [hW]; exact below_alloc1 w _
  have howW : W.ownsRow w.heap.size 22 1 (.slice (some ⟨w.heap.size, 0, none⟩) 1 1) 1 [.slice ea en ec] := by
    have q := World.ownsRow_lit (base := w.heap.size) (e := 22) (size := 1) w #[.slice ea en ec] 1 (by omega) (by decide) rfl
    rw [← hW] at q
    exact q
  obtain ⟨v', ws, w', hap, hown, hgrow, hwl, hws⟩ := append_run w W.drew (fun q hq => HBW.out.block q hq) w.heap.size _ [.slice ea en ec] howW.drew v yss g hp.out (by show _ ≤ W.heap.size; omega) (by have := hlb.out; simp; omega) 37
  rw [hW] at hap
  have HOW : Hid (w'.ownsRow w.heap.size 22 1 v' (1 + yss.length) (.slice ea en ec :: ws)) := hown
  have HBw : Hid (Below w.heap.size w w') := by
    have q : Below w.heap.size w W.drew := ⟨HBW.out.os, HBW.out.tape, HBW.out.output, HBW.out.size, HBW.out.block⟩
    exact q.grown hgrow q.size (fun b hb => by have hb' : some (w.heap.size) = some b := hb; injection hb' with hb'; omega)
  have HGW : Hid (g < w.heap.size) := hs.out.lt
  have HU : Hid (Calls Tryd.prog 24 #[.pointer (some ⟨g, 0, none⟩), v'] w' fun e w'' => Hid (e = .returned (.tuple #[]) ∧ SpAt w'' g dg (updK dg K V (E ++ yss.flatten)) (updV dg K V (E ++ yss.flatten)) L c ∧ Touch w w'' g 0 131)) := by
    have hpl : PL w' g v' (E :: yss) := by
      rcases HOW.out.2 with ⟨_, e0⟩ | ⟨gp, cp, cur, e, q1, q2, q3, q4, q5, q6⟩
      · omega
      · refine .inr ⟨⟨_, _, _, e⟩, ⟨some ⟨gp, 0, none⟩, cp, by rw [e]; simp; omega, by simp; omega, q4, .inr ⟨gp, 0, rfl, by have := HGW.out; omega, fun i hi => ?_⟩⟩⟩
        have hi' : i < 1 + ws.length := by rw [hwl]; simp at hi; omega
        have hx : ∃ x, (.slice ea en ec :: ws : List Value)[i]? = some x := by
          exact ⟨_, List.getElem?_eq_getElem (by simp; omega)⟩
        obtain ⟨x, hx⟩ := hx
        have hc := HOW.out.cells (g := gp) (by rw [e]; rfl) i x hx
        rw [Addr.add_lit] at hc
        refine ⟨x, hc, ?_⟩
        match i, hx with
        | 0, hx =>
          simp at hx
          subst hx
          exact ⟨he.out.kept (fun j hj => HBw.out.block j hj), heg.out⟩
        | i + 1, hx =>
          simp at hx
          have q := hws i x hx
          have e2 : (E :: yss).getD (i + 1) [] = yss.getD i [] := by simp [List.getD]
          rw [e2]
          exact ⟨q.1.kept (fun j hj => HBw.out.block j hj), q.2⟩
    have q := update_ok g dg K V L c v' (E :: yss) w' k (hs.out.below HBw.out) (hT.out.below HBw.out hT.out.size) hpl (by show _ ≤ _; have h3 := hl.out; have h4 := hel.out; simp at h3 ⊢; omega) (by show _ ≤ _; have h3 := hlb.out; simp; omega) hg
    have e1 : (E :: yss).flatten = E ++ yss.flatten := by simp
    rw [e1] at q
    refine q.mono ?_
    rintro e w'' ⟨r1, r2, r3⟩
    exact ⟨r1, r2, ((Touch.refl w g 0 131).below HBw.out HGW.out).trans r3⟩
  go_enter Tryd.func14, Tryd.ntmps14
  go_upto_region 7 with (first | (go_at_call 25; refine (HJ.out _ hp.out).mono ?_; rintro e5 w5 ⟨rfl, hw5⟩; obtain rfl := hw5.symm) | (go_at_call 23; refine (feeds_ok ea en ec _ h1 h2).mono ?_; rintro e5 w5 ⟨rfl, hw5⟩; obtain rfl := hw5.symm))
  have hS0 : Touch w w.drew g 0 131 := (Touch.refl _ _ _ _).drew
  refine wp_region_noPanic ?_
  refine wp_region_held_drew (S := fun u => Touch w u g 0 131) (by kernel_rfl) (hS0) (fun _ => ?_)
  refine takeH_at 0 15 (.pointer (some ⟨g, 0, none⟩)) rfl rfl (by kernel_rfl) (by kernel_rfl) (by kernel_rfl) (fun _ _ _ h => h) (hS0) (Or.inl ⟨by kernel_rfl, fun w' hS' => by go_simp⟩) ?_
  simp only [List.setIfInBounds_toArray, List.set_cons_zero, List.set_cons_succ]
  refine takeH_at 1 16 (.pointer (some ⟨g, 0, none⟩)) rfl rfl (by kernel_rfl) (by kernel_rfl) (by kernel_rfl) (fun _ _ _ h => h) (hS0) (Or.inl ⟨by kernel_rfl, fun w' hS' => by go_simp⟩) ?_
  simp only [List.setIfInBounds_toArray, List.set_cons_zero, List.set_cons_succ]
  refine takeH_at 2 17 (.pointer (some ⟨g, 0, none⟩)) rfl rfl (by kernel_rfl) (by kernel_rfl) (by kernel_rfl) (fun _ _ _ h => h) (hS0) (Or.inl ⟨by kernel_rfl, fun w' hS' => by go_simp⟩) ?_
  simp only [List.setIfInBounds_toArray, List.set_cons_zero, List.set_cons_succ]
  refine takeH_at 3 18 (.slice ea en ec) rfl rfl (by kernel_rfl) (by kernel_rfl) (by kernel_rfl) (fun _ _ _ h => h) (hS0) (Or.inl ⟨by kernel_rfl, fun w' hS' => by go_simp⟩) ?_
  simp only [List.setIfInBounds_toArray, List.set_cons_zero, List.set_cons_succ]
  refine takeH_at 5 20 (v) rfl rfl (by kernel_rfl) (by kernel_rfl) (by kernel_rfl) (fun _ _ _ h => h) (hS0) (Or.inl ⟨by kernel_rfl, fun w' hS' => by go_simp⟩) ?_
  simp only [List.setIfInBounds_toArray, List.set_cons_zero, List.set_cons_succ]
  refine wpAnyH_ready (rs := [4]) (by kernel_rfl) (by simp) ?_
  refine AllReadyH.cons rfl (fun Kc hK => ?_) AllReadyH.nil
  go_simp
  refine hK.out _ _ ((hS0).alloc _ hs.out.lt) (fun _ => ?_)
  clear hK Kc
  try simp only [List.setIfInBounds_toArray, List.set_cons_zero, List.set_cons_succ]
  refine wpAnyH_ready (rs := [6]) (by kernel_rfl) (by simp) ?_
  refine AllReadyH.cons rfl (fun Kc hK => ?_) AllReadyH.nil
  refine wp_append_parts (.tmp 19) (.tmp 20) rfl rfl rfl hap ?_
  refine hK.out _ _ ((Touch.refl w g 0 131).below HBw.out hs.out.lt) (fun _ => ?_)
  clear hK Kc
  try simp only [List.setIfInBounds_toArray, List.set_cons_zero, List.set_cons_succ]
  refine wpAnyH_ready (rs := [7]) (by kernel_rfl) (by simp) ?_
  refine AllReadyH.cons rfl (fun Kc hK => ?_) AllReadyH.nil
  go_simp
  refine HU.out.mono ?_
  intro e6 w6 hh
  obtain ⟨rfl, hs6, ht6⟩ := hh.out
  go_wp2_with fail
  refine hK.out _ _ ht6 (fun _ => ?_)
  clear hK Kc
  refine wpAnyH_done (by kernel_rfl) ?_ _
  refine NoPanic.normal ?_
  have HS6 : Hid (SpAt w6 g dg (updK dg K V (E ++ yss.flatten)) (updV dg K V (E ++ yss.flatten)) L c) := hs6
  have HT6 : Hid (Touch w w6 g 0 131) := ht6
  clear hh hs6 ht6 hap hown hgrow hws howW hS0 HU HOW
  have c3 : w6.cell? ⟨g, 130, none⟩ = some (.int .i64 c) := HS6.out.cnt
  have f3 : w6.frozen? ⟨g, 130, none⟩ = false := by have := (HS6.out.there 130 (by omega)).2; simpa using this
  have HF : Hid (SpAt (w6.setCell ⟨g, 130, none⟩ (.int .i64 0)) g dg (updK dg K V (E ++ yss.flatten)) (updV dg K V (E ++ yss.flatten)) L 0 ∧ Touch w (w6.setCell ⟨g, 130, none⟩ (.int .i64 0)) g 0 131) := ⟨HS6.out.setC 0, HT6.out.trans ((Touch.refl w6 g 0 131).setCell 130 _ (by omega) (by omega))⟩
  go_wp2
  go_ret
  exact ⟨rfl, HF.out.1, HF.out.2⟩
end Go.Proofs.YtkeklmkaleomkaaDoor
namespace Go.Proofs.YtkeklmkaleomkaaDoor
open Go.RowKit
set_option linter.unusedVariables false
set_option linter.unusedSimpArgs false
/-- What Draw tells of what it doesn't give, of a spring that there is. -/
def drE (n : Int) (tot : Nat) (c L : Int) : Int := if n < 0 then 2 else if 65536 < n ∨ 65536 < tot then 4 else if c = L then 61 else 0
theorem drE_zero {n : Int} {tot : Nat} {c L : Int} (h : drE n tot c L = 0) : 0 ≤ n ∧ n ≤ 65536 ∧ tot ≤ 65536 ∧ c ≠ L := by
  unfold drE at h
  by_cases h1 : n < 0
  · rw [if_pos h1] at h; cases h
  · rw [if_neg h1] at h
    by_cases h2 : 65536 < n ∨ 65536 < tot
    · rw [if_pos h2] at h; cases h
    · rw [if_neg h2] at h
      by_cases h3 : c = L
      · rw [if_pos h3] at h; cases h
      · exact ⟨by omega, by omega, by omega, h3⟩
def DbP (w w' : World) (e : Ending) (x : Int) : Prop := e = .returned (.tuple #[.slice none 0 0, .int .i64 x]) ∧ Below w.heap.size w w'
theorem below_drewN (w : World) (m : Nat) : Below w.heap.size w (w.drewN m) := ⟨rfl, rfl, rfl, Nat.le_refl _, fun _ _ => rfl⟩
theorem spdraw_nil (n : Int) (v : Value) (w : World) : Calls Tryd.prog 12 #[.pointer none, .int .i64 n, v] w fun e w' => Hid (DbP w w' e 1) := by
  go_enter Tryd.func12, Tryd.ntmps12
  go_wp2
  go_ret2
  exact ⟨rfl, Below.refl _ _⟩
set_option maxHeartbeats 800000 in
set_option maxRecDepth 100000 in
theorem spdraw_2 (g : Nat) (dg : Int) (K V : Nat → Int) (L c n : Int) (v : Value) (yss : List (List Int)) (w : World) (hs : Hid (SpAt w g dg K V L c)) (hp : Hid (Parts w g v yss)) (hl : Hid (yss.flatten.length ≤ 140737488355328)) (h1 : n < 0) :
    Calls Tryd.prog 12 #[.pointer (some ⟨g, 0, none⟩), .int .i64 n, v] w fun e w' => Hid (DbP w w' e 2) := by
  have c1 : w.cell? ⟨g, 129, none⟩ = some (.int .i64 L) := hs.out.lim
  have c2 : w.cell? ⟨g, 130, none⟩ = some (.int .i64 c) := hs.out.cnt
  have q1 : decide (n < 0) = true := by simpa using h1
  go_enter Tryd.func12, Tryd.ntmps12
  go_wp2
  go_ret2
  exact ⟨rfl, Below.refl _ _⟩
set_option maxHeartbeats 800000 in
set_option maxRecDepth 100000 in
theorem spdraw_4a (g : Nat) (dg : Int) (K V : Nat → Int) (L c n : Int) (v : Value) (yss : List (List Int)) (w : World) (hs : Hid (SpAt w g dg K V L c)) (hp : Hid (Parts w g v yss)) (hl : Hid (yss.flatten.length ≤ 140737488355328)) (h1 : ¬ n < 0) (h2 : 65536 < n) :
    Calls Tryd.prog 12 #[.pointer (some ⟨g, 0, none⟩), .int .i64 n, v] w fun e w' => Hid (DbP w w' e 4) := by
  have c1 : w.cell? ⟨g, 129, none⟩ = some (.int .i64 L) := hs.out.lim
  have c2 : w.cell? ⟨g, 130, none⟩ = some (.int .i64 c) := hs.out.cnt
  have q1 : decide (n < 0) = false := by simpa using h1
  have q2 : decide (65536 < n) = true := by simpa using h2
  go_enter Tryd.func12, Tryd.ntmps12
  go_wp2
  go_ret2
  exact ⟨rfl, Below.refl _ _⟩
set_option maxHeartbeats 800000 in
set_option maxRecDepth 100000 in
theorem spdraw_4b (g : Nat) (dg : Int) (K V : Nat → Int) (L c n : Int) (v : Value) (yss : List (List Int)) (w : World) (hs : Hid (SpAt w g dg K V L c)) (hp : Hid (Parts w g v yss)) (hl : Hid (yss.flatten.length ≤ 140737488355328)) (h1 : ¬ n < 0) (h2 : ¬ 65536 < n) (h3 : 65536 < yss.flatten.length) :
    Calls Tryd.prog 12 #[.pointer (some ⟨g, 0, none⟩), .int .i64 n, v] w fun e w' => Hid (DbP w w' e 4) := by
  have c1 : w.cell? ⟨g, 129, none⟩ = some (.int .i64 L) := hs.out.lim
  have c2 : w.cell? ⟨g, 130, none⟩ = some (.int .i64 c) := hs.out.cnt
  obtain ⟨N, HNN⟩ : ∃ N, Hid (N = yss.flatten.length) := ⟨_, rfl⟩
  have HJ : Hid (∀ u, Parts u g v yss → Calls Tryd.prog 25 #[v] u fun e w' => e = .returned (.int .i64 (N : Nat)) ∧ w' = u) := fun u hu => by
    have q := joined_ok g v yss u hu hl
    rw [← HNN.out] at q
    exact q
  have d2 : decide ((65536 : Int) < (N : Nat)) = true := by have := HNN.out; simp; omega
  have q1 : decide (n < 0) = false := by simpa using h1
  have q2 : decide (65536 < n) = false := by simpa using h2
  go_enter Tryd.func12, Tryd.ntmps12
  go_wp2_with (go_at_call 25; refine (HJ.out _ hp.out).mono ?_; rintro e5 w5 ⟨rfl, hw5⟩; obtain rfl := hw5.symm)
  go_ret2
  exact ⟨rfl, Below.refl _ _⟩
set_option maxHeartbeats 800000 in
set_option maxRecDepth 100000 in
theorem spdraw_61 (g : Nat) (dg : Int) (K V : Nat → Int) (L c n : Int) (v : Value) (yss : List (List Int)) (w : World) (hs : Hid (SpAt w g dg K V L c)) (hp : Hid (Parts w g v yss)) (hl : Hid (yss.flatten.length ≤ 140737488355328)) (h1 : ¬ n < 0) (h2 : ¬ 65536 < n) (h3 : ¬ 65536 < yss.flatten.length) (h4 : c = L) :
    Calls Tryd.prog 12 #[.pointer (some ⟨g, 0, none⟩), .int .i64 n, v] w fun e w' => Hid (DbP w w' e 61) := by
  have c1 : w.cell? ⟨g, 129, none⟩ = some (.int .i64 L) := hs.out.lim
  have c2 : w.cell? ⟨g, 130, none⟩ = some (.int .i64 c) := hs.out.cnt
  obtain ⟨N, HNN⟩ : ∃ N, Hid (N = yss.flatten.length) := ⟨_, rfl⟩
  have HJ : Hid (∀ u, Parts u g v yss → Calls Tryd.prog 25 #[v] u fun e w' => e = .returned (.int .i64 (N : Nat)) ∧ w' = u) := fun u hu => by
    have q := joined_ok g v yss u hu hl
    rw [← HNN.out] at q
    exact q
  have d2 : decide ((65536 : Int) < (N : Nat)) = false := by have := HNN.out; simp; omega
  have q1 : decide (n < 0) = false := by simpa using h1
  have q2 : decide (65536 < n) = false := by simpa using h2
  have q4 : (c == L) = true := by simpa using h4
  clear h4
  go_enter Tryd.func12, Tryd.ntmps12
  go_upto_region 7 with (go_at_call 25; refine (HJ.out _ hp.out).mono ?_; rintro e5 w5 ⟨rfl, hw5⟩; obtain rfl := hw5.symm)
  go_quiet (fail)
  have HBq : Hid (Below w.heap.size w (w.drewN nq)) := below_drewN w nq
  go_wp2
  go_ret2
  exact ⟨rfl, HBq.out⟩
/-- Draw, of what is refused. -/
theorem spdraw_bad (g : Nat) (dg : Int) (K V : Nat → Int) (L c n : Int) (v : Value) (yss : List (List Int)) (w : World) (hs : SpAt w g dg K V L c) (hp : Parts w g v yss) (hl : yss.flatten.length ≤ 140737488355328) (h : drE n yss.flatten.length c L ≠ 0) :
    Calls Tryd.prog 12 #[.pointer (some ⟨g, 0, none⟩), .int .i64 n, v] w fun e w' => Hid (DbP w w' e (drE n yss.flatten.length c L)) := by
  unfold drE at h ⊢
  by_cases h1 : n < 0
  · rw [if_pos h1]; exact spdraw_2 g dg K V L c n v yss w hs hp hl h1
  · rw [if_neg h1] at h ⊢
    by_cases h2 : 65536 < n ∨ 65536 < yss.flatten.length
    · rw [if_pos h2]
      by_cases h2' : 65536 < n
      · exact spdraw_4a g dg K V L c n v yss w hs hp hl h1 h2'
      · exact spdraw_4b g dg K V L c n v yss w hs hp hl h1 h2' (by omega)
    · rw [if_neg h2] at h ⊢
      by_cases h3 : c = L
      · rw [if_pos h3]; exact spdraw_61 g dg K V L c n v yss w hs hp hl h1 (by omega) (by omega) h3
      · rw [if_neg h3] at h; exact absurd rfl h
set_option maxHeartbeats 800000 in
set_option maxRecDepth 100000 in
theorem rdraw_nil (n : Int) (xa : Option Addr) (xn xc : Nat) (xs : List Value) (yss : List (List Int)) (w : World) (hP : Hid (PV w (.slice xa xn xc) xs yss)) (hxn : Hid (xs.length = xn)) (hl : Hid (yss.flatten.length ≤ 1048576)) (hxb : xn ≤ 1048576)  :
    Calls Tryd.prog 19 #[.pointer none, .int .i64 n, .slice xa xn xc] w fun e w' => Hid (DbP w w' e 1) := by
  obtain ⟨N, HNN⟩ : ∃ N, Hid (N = yss.flatten.length) := ⟨_, rfl⟩
  obtain ⟨ys, HY⟩ : ∃ ys, Hid (ys = yss.flatten) := ⟨_, rfl⟩
  have H30 : Hid (Calls Tryd.prog 30 #[.slice xa xn xc] w fun e w' => Hid (JnP w w' e N ys)) := by
    rw [HNN.out, HY.out]
    exact jn_ok xa xn xc xs yss w hP.out hxn.out hl.out hxb
  have hN : N = yss.flatten.length := HNN.out
  clear hN
  go_enter Tryd.func19, Tryd.ntmps19
  go_upto_region 2 with (go_at_call 30; refine H30.out.mono ?_; intro e1 w1 hh; obtain ⟨ja, jc, rfl, ho1, hb1⟩ := hh.out)
  have HB1 : Hid (Below w.heap.size w w1) := hb1
  clear hh ho1 hb1 H30
  go_wp2
  go_ret2
  exact ⟨rfl, HB1.out⟩
set_option maxHeartbeats 800000 in
set_option maxRecDepth 100000 in
theorem rdraw_2 (g : Nat) (dg L c : Int) (ka va : Option Addr) (kc vc : Nat) (KL VL : List Int) (n : Int) (xa : Option Addr) (xn xc : Nat) (xs : List Value) (yss : List (List Int)) (w : World) (hs : Hid (RSp w g dg L c ka kc va vc KL VL)) (hP : Hid (PV w (.slice xa xn xc) xs yss)) (hxn : Hid (xs.length = xn)) (hl : Hid (yss.flatten.length ≤ 1048576)) (hxb : xn ≤ 1048576) (h1 : n < 0) :
    Calls Tryd.prog 19 #[.pointer (some ⟨g, 0, none⟩), .int .i64 n, .slice xa xn xc] w fun e w' => Hid (DbP w w' e 2) := by
  obtain ⟨N, HNN⟩ : ∃ N, Hid (N = yss.flatten.length) := ⟨_, rfl⟩
  obtain ⟨ys, HY⟩ : ∃ ys, Hid (ys = yss.flatten) := ⟨_, rfl⟩
  have H30 : Hid (Calls Tryd.prog 30 #[.slice xa xn xc] w fun e w' => Hid (JnP w w' e N ys)) := by
    rw [HNN.out, HY.out]
    exact jn_ok xa xn xc xs yss w hP.out hxn.out hl.out hxb
  have hN : N = yss.flatten.length := HNN.out
  have q1 : decide (n < 0) = true := by simpa using h1
  clear hN
  go_enter Tryd.func19, Tryd.ntmps19
  go_upto_region 2 with (go_at_call 30; refine H30.out.mono ?_; intro e1 w1 hh; obtain ⟨ja, jc, rfl, ho1, hb1⟩ := hh.out)
  have HB1 : Hid (Below w.heap.size w w1) := hb1
  have HS1 : Hid (RSp w1 g dg L c ka kc va vc KL VL) := hs.out.below hb1
  clear hh ho1 hb1 H30
  have c1 : w1.cell? ⟨g, 1, none⟩ = some (.int .i64 L) := HS1.out.c1
  have c2 : w1.cell? ⟨g, 2, none⟩ = some (.int .i64 c) := HS1.out.c2
  go_wp2
  go_ret2
  exact ⟨rfl, HB1.out⟩
set_option maxHeartbeats 800000 in
set_option maxRecDepth 100000 in
theorem rdraw_4a (g : Nat) (dg L c : Int) (ka va : Option Addr) (kc vc : Nat) (KL VL : List Int) (n : Int) (xa : Option Addr) (xn xc : Nat) (xs : List Value) (yss : List (List Int)) (w : World) (hs : Hid (RSp w g dg L c ka kc va vc KL VL)) (hP : Hid (PV w (.slice xa xn xc) xs yss)) (hxn : Hid (xs.length = xn)) (hl : Hid (yss.flatten.length ≤ 1048576)) (hxb : xn ≤ 1048576) (h1 : ¬ n < 0) (h2 : 65536 < n) :
    Calls Tryd.prog 19 #[.pointer (some ⟨g, 0, none⟩), .int .i64 n, .slice xa xn xc] w fun e w' => Hid (DbP w w' e 4) := by
  obtain ⟨N, HNN⟩ : ∃ N, Hid (N = yss.flatten.length) := ⟨_, rfl⟩
  obtain ⟨ys, HY⟩ : ∃ ys, Hid (ys = yss.flatten) := ⟨_, rfl⟩
  have H30 : Hid (Calls Tryd.prog 30 #[.slice xa xn xc] w fun e w' => Hid (JnP w w' e N ys)) := by
    rw [HNN.out, HY.out]
    exact jn_ok xa xn xc xs yss w hP.out hxn.out hl.out hxb
  have hN : N = yss.flatten.length := HNN.out
  have q1 : decide (n < 0) = false := by simpa using h1
  have q2 : decide (65536 < n) = true := by simpa using h2
  clear hN
  go_enter Tryd.func19, Tryd.ntmps19
  go_upto_region 2 with (go_at_call 30; refine H30.out.mono ?_; intro e1 w1 hh; obtain ⟨ja, jc, rfl, ho1, hb1⟩ := hh.out)
  have HB1 : Hid (Below w.heap.size w w1) := hb1
  have HS1 : Hid (RSp w1 g dg L c ka kc va vc KL VL) := hs.out.below hb1
  clear hh ho1 hb1 H30
  have c1 : w1.cell? ⟨g, 1, none⟩ = some (.int .i64 L) := HS1.out.c1
  have c2 : w1.cell? ⟨g, 2, none⟩ = some (.int .i64 c) := HS1.out.c2
  go_wp2
  go_ret2
  exact ⟨rfl, HB1.out⟩
set_option maxHeartbeats 800000 in
set_option maxRecDepth 100000 in
theorem rdraw_4b (g : Nat) (dg L c : Int) (ka va : Option Addr) (kc vc : Nat) (KL VL : List Int) (n : Int) (xa : Option Addr) (xn xc : Nat) (xs : List Value) (yss : List (List Int)) (w : World) (hs : Hid (RSp w g dg L c ka kc va vc KL VL)) (hP : Hid (PV w (.slice xa xn xc) xs yss)) (hxn : Hid (xs.length = xn)) (hl : Hid (yss.flatten.length ≤ 1048576)) (hxb : xn ≤ 1048576) (h1 : ¬ n < 0) (h2 : ¬ 65536 < n) (h3 : 65536 < yss.flatten.length) :
    Calls Tryd.prog 19 #[.pointer (some ⟨g, 0, none⟩), .int .i64 n, .slice xa xn xc] w fun e w' => Hid (DbP w w' e 4) := by
  obtain ⟨N, HNN⟩ : ∃ N, Hid (N = yss.flatten.length) := ⟨_, rfl⟩
  obtain ⟨ys, HY⟩ : ∃ ys, Hid (ys = yss.flatten) := ⟨_, rfl⟩
  have H30 : Hid (Calls Tryd.prog 30 #[.slice xa xn xc] w fun e w' => Hid (JnP w w' e N ys)) := by
    rw [HNN.out, HY.out]
    exact jn_ok xa xn xc xs yss w hP.out hxn.out hl.out hxb
  have hN : N = yss.flatten.length := HNN.out
  have q1 : decide (n < 0) = false := by simpa using h1
  have q2 : decide (65536 < n) = false := by simpa using h2
  have q3 : decide ((65536 : Int) < (N : Nat)) = true := by simp; omega
  clear hN
  go_enter Tryd.func19, Tryd.ntmps19
  go_upto_region 2 with (go_at_call 30; refine H30.out.mono ?_; intro e1 w1 hh; obtain ⟨ja, jc, rfl, ho1, hb1⟩ := hh.out)
  have HB1 : Hid (Below w.heap.size w w1) := hb1
  have HS1 : Hid (RSp w1 g dg L c ka kc va vc KL VL) := hs.out.below hb1
  clear hh ho1 hb1 H30
  have c1 : w1.cell? ⟨g, 1, none⟩ = some (.int .i64 L) := HS1.out.c1
  have c2 : w1.cell? ⟨g, 2, none⟩ = some (.int .i64 c) := HS1.out.c2
  go_wp2
  go_ret2
  exact ⟨rfl, HB1.out⟩
set_option maxHeartbeats 800000 in
set_option maxRecDepth 100000 in
theorem rdraw_61 (g : Nat) (dg L c : Int) (ka va : Option Addr) (kc vc : Nat) (KL VL : List Int) (n : Int) (xa : Option Addr) (xn xc : Nat) (xs : List Value) (yss : List (List Int)) (w : World) (hs : Hid (RSp w g dg L c ka kc va vc KL VL)) (hP : Hid (PV w (.slice xa xn xc) xs yss)) (hxn : Hid (xs.length = xn)) (hl : Hid (yss.flatten.length ≤ 1048576)) (hxb : xn ≤ 1048576) (h1 : ¬ n < 0) (h2 : ¬ 65536 < n) (h3 : ¬ 65536 < yss.flatten.length) (h4 : c = L) :
    Calls Tryd.prog 19 #[.pointer (some ⟨g, 0, none⟩), .int .i64 n, .slice xa xn xc] w fun e w' => Hid (DbP w w' e 61) := by
  obtain ⟨N, HNN⟩ : ∃ N, Hid (N = yss.flatten.length) := ⟨_, rfl⟩
  obtain ⟨ys, HY⟩ : ∃ ys, Hid (ys = yss.flatten) := ⟨_, rfl⟩
  have H30 : Hid (Calls Tryd.prog 30 #[.slice xa xn xc] w fun e w' => Hid (JnP w w' e N ys)) := by
    rw [HNN.out, HY.out]
    exact jn_ok xa xn xc xs yss w hP.out hxn.out hl.out hxb
  have hN : N = yss.flatten.length := HNN.out
  have q1 : decide (n < 0) = false := by simpa using h1
  have q2 : decide (65536 < n) = false := by simpa using h2
  have q3 : decide ((65536 : Int) < (N : Nat)) = false := by simp; omega
  have q4 : (c == L) = true := by simpa using h4
  clear h4
  clear hN
  go_enter Tryd.func19, Tryd.ntmps19
  go_upto_region 2 with (go_at_call 30; refine H30.out.mono ?_; intro e1 w1 hh; obtain ⟨ja, jc, rfl, ho1, hb1⟩ := hh.out)
  have HB1 : Hid (Below w.heap.size w w1) := hb1
  have HS1 : Hid (RSp w1 g dg L c ka kc va vc KL VL) := hs.out.below hb1
  clear hh ho1 hb1 H30
  have c1 : w1.cell? ⟨g, 1, none⟩ = some (.int .i64 L) := HS1.out.c1
  have c2 : w1.cell? ⟨g, 2, none⟩ = some (.int .i64 c) := HS1.out.c2
  go_upto_region 8 with fail
  go_quiet (fail)
  have HBq : Hid (Below w.heap.size w (w1.drewN nq)) := HB1.out.trans ((below_drewN w1 nq).mono HB1.out.size)
  go_wp2
  go_ret2
  exact ⟨rfl, HBq.out⟩
/-- cofferref06.Draw, of what is refused. -/
theorem rdraw_bad (g : Nat) (dg L c : Int) (ka va : Option Addr) (kc vc : Nat) (KL VL : List Int) (n : Int) (xa : Option Addr) (xn xc : Nat) (xs : List Value) (yss : List (List Int)) (w : World) (hs : RSp w g dg L c ka kc va vc KL VL) (hP : PV w (.slice xa xn xc) xs yss) (hxn : xs.length = xn) (hl : yss.flatten.length ≤ 1048576) (hxb : xn ≤ 1048576) (h : drE n yss.flatten.length c L ≠ 0) :
    Calls Tryd.prog 19 #[.pointer (some ⟨g, 0, none⟩), .int .i64 n, .slice xa xn xc] w fun e w' => Hid (DbP w w' e (drE n yss.flatten.length c L)) := by
  unfold drE at h ⊢
  by_cases h1 : n < 0
  · rw [if_pos h1]; exact rdraw_2 g dg L c ka va kc vc KL VL n xa xn xc xs yss w hs hP hxn hl hxb h1
  · rw [if_neg h1] at h ⊢
    by_cases h2 : 65536 < n ∨ 65536 < yss.flatten.length
    · rw [if_pos h2]
      by_cases h2' : 65536 < n
      · exact rdraw_4a g dg L c ka va kc vc KL VL n xa xn xc xs yss w hs hP hxn hl hxb h1 h2'
      · exact rdraw_4b g dg L c ka va kc vc KL VL n xa xn xc xs yss w hs hP hxn hl hxb h1 h2' (by omega)
    · rw [if_neg h2] at h ⊢
      by_cases h3 : c = L
      · rw [if_pos h3]; exact rdraw_61 g dg L c ka va kc vc KL VL n xa xn xc xs yss w hs hP hxn hl hxb h1 (by omega) (by omega) h3
      · rw [if_neg h3] at h; exact absurd rfl h
end Go.Proofs.YtkeklmkaleomkaaDoor
namespace Go.Proofs.YtkeklmkaleomkaaDoor
open Go.RowKit
set_option linter.unusedVariables false
set_option linter.unusedSimpArgs false
theorem spleft_nil (w : World) : Calls Tryd.prog 16 #[.pointer none] w fun e w' => e = .returned (.int .i64 0) ∧ w' = w := by
  go_enter Tryd.func16, Tryd.ntmps16
  go_wp2
  go_ret
  exact ⟨rfl, rfl⟩
theorem spcopy_nil (w : World) : Calls Tryd.prog 11 #[.pointer none] w fun e w' => e = .returned (.pointer none) ∧ w' = w := by
  go_enter Tryd.func11, Tryd.ntmps11
  go_wp2
  go_ret
  exact ⟨rfl, rfl⟩
theorem spfeed_nil (x v : Value) (w : World) : Calls Tryd.prog 14 #[.pointer none, x, v] w fun e w' => e = .returned (.int .i64 1) ∧ w' = w := by
  go_enter Tryd.func14, Tryd.ntmps14
  go_wp2
  go_ret
  exact ⟨rfl, rfl⟩
/-- What Feed tells. -/
def fdE (en tot : Nat) : Int := if en < 16 ∨ 65536 < en then 60 else if 65536 < tot then 4 else 0
set_option maxHeartbeats 400000 in
theorem sfeed_60 (g : Nat) (ea : Option Addr) (en ec : Nat) (v : Value) (w : World) (h1 : en < 16 ∨ 65536 < en) :
    Calls Tryd.prog 14 #[.pointer (some ⟨g, 0, none⟩), .slice ea en ec, v] w fun e w' => e = .returned (.int .i64 60) ∧ w' = w := by
  have HF : Hid (∀ u, Calls Tryd.prog 23 #[.slice ea en ec] u fun e w' => e = .returned (.bool false) ∧ w' = u) := fun u => by
    rcases h1 with h1 | h1
    · exact feeds_few2 ea en ec u h1
    · exact feeds_many2 ea en ec u h1
  go_enter Tryd.func14, Tryd.ntmps14
  go_wp2_with (go_at_call 23; refine (HF.out _).mono ?_; rintro e5 w5 ⟨rfl, hw5⟩; obtain rfl := hw5.symm)
  go_ret
  exact ⟨rfl, rfl⟩
set_option maxHeartbeats 400000 in
theorem sfeed_4 (g : Nat) (ea : Option Addr) (en ec : Nat) (v : Value) (yss : List (List Int)) (w : World) (h1 : 16 ≤ en) (h2 : en ≤ 65536) (hp : Hid (Parts w g v yss)) (hl : Hid (yss.flatten.length ≤ 140737488355328)) (h3 : Hid (65536 < yss.flatten.length)) :
    Calls Tryd.prog 14 #[.pointer (some ⟨g, 0, none⟩), .slice ea en ec, v] w fun e w' => e = .returned (.int .i64 4) ∧ w' = w := by
  obtain ⟨N, HNN⟩ : ∃ N, Hid (N = yss.flatten.length) := ⟨_, rfl⟩
  have hN : (65536 : Int) < (N : Nat) := by have := h3.out; rw [← HNN.out] at this; omega
  have HJ : Hid (Calls Tryd.prog 25 #[v] w fun e w' => e = .returned (.int .i64 (N : Nat)) ∧ w' = w) := by
    have q := joined_ok g v yss w hp hl
    rw [← HNN.out] at q
    exact q
  go_enter Tryd.func14, Tryd.ntmps14
  go_wp2_with (first | (go_at_call 25; refine HJ.out.mono ?_; rintro e5 w5 ⟨rfl, hw5⟩; obtain rfl := hw5.symm) | (go_at_call 23; refine (feeds_ok ea en ec _ h1 h2).mono ?_; rintro e5 w5 ⟨rfl, hw5⟩; obtain rfl := hw5.symm))
  go_ret
  exact ⟨rfl, rfl⟩
theorem sfeed_bad (g : Nat) (ea : Option Addr) (en ec : Nat) (v : Value) (yss : List (List Int)) (w : World) (hp : Parts w g v yss) (hl : yss.flatten.length ≤ 140737488355328) (h : fdE en yss.flatten.length ≠ 0) :
    Calls Tryd.prog 14 #[.pointer (some ⟨g, 0, none⟩), .slice ea en ec, v] w fun e w' => e = .returned (.int .i64 (fdE en yss.flatten.length)) ∧ w' = w := by
  unfold fdE at h ⊢
  by_cases h1 : en < 16 ∨ 65536 < en
  · rw [if_pos h1]
    exact sfeed_60 g ea en ec v w h1
  · rw [if_neg h1] at h ⊢
    by_cases h2 : 65536 < yss.flatten.length
    · rw [if_pos h2]
      exact sfeed_4 g ea en ec v yss w (by omega) (by omega) hp hl h2
    · rw [if_neg h2] at h
      exact absurd rfl h
theorem fdE_zero {en tot : Nat} (h : fdE en tot = 0) : 16 ≤ en ∧ en ≤ 65536 ∧ tot ≤ 65536 := by
  unfold fdE at h
  by_cases h1 : en < 16 ∨ 65536 < en
  · rw [if_pos h1] at h; cases h
  · rw [if_neg h1] at h
    by_cases h2 : 65536 < tot
    · rw [if_pos h2] at h; cases h
    · exact ⟨by omega, by omega, by omega⟩
def FbP (w w' : World) (e : Ending) (x : Int) : Prop := e = .returned (.int .i64 x) ∧ Below w.heap.size w w'
set_option maxHeartbeats 800000 in
set_option maxRecDepth 100000 in
theorem rfeed_nil (ea : Option Addr) (en ec : Nat) (xa : Option Addr) (xn xc : Nat) (xs : List Value) (yss : List (List Int)) (w : World) (hP : Hid (PV w (.slice xa xn xc) xs yss)) (hxn : Hid (xs.length = xn)) (hl : Hid (yss.flatten.length ≤ 1048576)) (hxb : xn ≤ 1048576)  :
    Calls Tryd.prog 36 #[.pointer none, .slice ea en ec, .slice xa xn xc] w fun e w' => Hid (FbP w w' e 1) := by
  obtain ⟨N, HNN⟩ : ∃ N, Hid (N = yss.flatten.length) := ⟨_, rfl⟩
  obtain ⟨ys, HY⟩ : ∃ ys, Hid (ys = yss.flatten) := ⟨_, rfl⟩
  have H30 : Hid (Calls Tryd.prog 30 #[.slice xa xn xc] w fun e w' => Hid (JnP w w' e N ys)) := by
    rw [HNN.out, HY.out]
    exact jn_ok xa xn xc xs yss w hP.out hxn.out hl.out hxb
  have hN : N = yss.flatten.length := HNN.out
  clear hN
  go_enter Tryd.func36, Tryd.ntmps36
  go_upto_region 2 with (go_at_call 30; refine H30.out.mono ?_; intro e1 w1 hh; obtain ⟨ja, jc, rfl, ho1, hb1⟩ := hh.out)
  have HB1 : Hid (Below w.heap.size w w1) := hb1
  clear hh ho1 hb1 H30
  go_wp2
  go_ret
  exact ⟨rfl, HB1.out⟩
set_option maxHeartbeats 800000 in
set_option maxRecDepth 100000 in
theorem rfeed_60a (g : Nat) (ea : Option Addr) (en ec : Nat) (xa : Option Addr) (xn xc : Nat) (xs : List Value) (yss : List (List Int)) (w : World) (hP : Hid (PV w (.slice xa xn xc) xs yss)) (hxn : Hid (xs.length = xn)) (hl : Hid (yss.flatten.length ≤ 1048576)) (hxb : xn ≤ 1048576) (h1 : en < 16) :
    Calls Tryd.prog 36 #[.pointer (some ⟨g, 0, none⟩), .slice ea en ec, .slice xa xn xc] w fun e w' => Hid (FbP w w' e 60) := by
  obtain ⟨N, HNN⟩ : ∃ N, Hid (N = yss.flatten.length) := ⟨_, rfl⟩
  obtain ⟨ys, HY⟩ : ∃ ys, Hid (ys = yss.flatten) := ⟨_, rfl⟩
  have H30 : Hid (Calls Tryd.prog 30 #[.slice xa xn xc] w fun e w' => Hid (JnP w w' e N ys)) := by
    rw [HNN.out, HY.out]
    exact jn_ok xa xn xc xs yss w hP.out hxn.out hl.out hxb
  have hN : N = yss.flatten.length := HNN.out
  have q1 : decide (((en : Nat) : Int) < 16) = true := by simp; omega
  clear hN
  go_enter Tryd.func36, Tryd.ntmps36
  go_upto_region 2 with (go_at_call 30; refine H30.out.mono ?_; intro e1 w1 hh; obtain ⟨ja, jc, rfl, ho1, hb1⟩ := hh.out)
  have HB1 : Hid (Below w.heap.size w w1) := hb1
  clear hh ho1 hb1 H30
  go_wp2
  go_ret
  exact ⟨rfl, HB1.out⟩
set_option maxHeartbeats 800000 in
set_option maxRecDepth 100000 in
theorem rfeed_60b (g : Nat) (ea : Option Addr) (en ec : Nat) (xa : Option Addr) (xn xc : Nat) (xs : List Value) (yss : List (List Int)) (w : World) (hP : Hid (PV w (.slice xa xn xc) xs yss)) (hxn : Hid (xs.length = xn)) (hl : Hid (yss.flatten.length ≤ 1048576)) (hxb : xn ≤ 1048576) (h1 : ¬ en < 16) (h2 : 65536 < en) :
    Calls Tryd.prog 36 #[.pointer (some ⟨g, 0, none⟩), .slice ea en ec, .slice xa xn xc] w fun e w' => Hid (FbP w w' e 60) := by
  obtain ⟨N, HNN⟩ : ∃ N, Hid (N = yss.flatten.length) := ⟨_, rfl⟩
  obtain ⟨ys, HY⟩ : ∃ ys, Hid (ys = yss.flatten) := ⟨_, rfl⟩
  have H30 : Hid (Calls Tryd.prog 30 #[.slice xa xn xc] w fun e w' => Hid (JnP w w' e N ys)) := by
    rw [HNN.out, HY.out]
    exact jn_ok xa xn xc xs yss w hP.out hxn.out hl.out hxb
  have hN : N = yss.flatten.length := HNN.out
  have q1 : decide (((en : Nat) : Int) < 16) = false := by simp; omega
  have q2 : decide ((65536 : Int) < (en : Nat)) = true := by simp; omega
  clear hN
  go_enter Tryd.func36, Tryd.ntmps36
  go_upto_region 2 with (go_at_call 30; refine H30.out.mono ?_; intro e1 w1 hh; obtain ⟨ja, jc, rfl, ho1, hb1⟩ := hh.out)
  have HB1 : Hid (Below w.heap.size w w1) := hb1
  clear hh ho1 hb1 H30
  go_wp2
  go_ret
  exact ⟨rfl, HB1.out⟩
set_option maxHeartbeats 800000 in
set_option maxRecDepth 100000 in
theorem rfeed_4 (g : Nat) (ea : Option Addr) (en ec : Nat) (xa : Option Addr) (xn xc : Nat) (xs : List Value) (yss : List (List Int)) (w : World) (hP : Hid (PV w (.slice xa xn xc) xs yss)) (hxn : Hid (xs.length = xn)) (hl : Hid (yss.flatten.length ≤ 1048576)) (hxb : xn ≤ 1048576) (h1 : ¬ en < 16) (h2 : ¬ 65536 < en) (h3 : 65536 < yss.flatten.length) :
    Calls Tryd.prog 36 #[.pointer (some ⟨g, 0, none⟩), .slice ea en ec, .slice xa xn xc] w fun e w' => Hid (FbP w w' e 4) := by
  obtain ⟨N, HNN⟩ : ∃ N, Hid (N = yss.flatten.length) := ⟨_, rfl⟩
  obtain ⟨ys, HY⟩ : ∃ ys, Hid (ys = yss.flatten) := ⟨_, rfl⟩
  have H30 : Hid (Calls Tryd.prog 30 #[.slice xa xn xc] w fun e w' => Hid (JnP w w' e N ys)) := by
    rw [HNN.out, HY.out]
    exact jn_ok xa xn xc xs yss w hP.out hxn.out hl.out hxb
  have hN : N = yss.flatten.length := HNN.out
  have q1 : decide (((en : Nat) : Int) < 16) = false := by simp; omega
  have q2 : decide ((65536 : Int) < (en : Nat)) = false := by simp; omega
  have q3 : decide ((65536 : Int) < (N : Nat)) = true := by simp; omega
  clear hN
  go_enter Tryd.func36, Tryd.ntmps36
  go_upto_region 2 with (go_at_call 30; refine H30.out.mono ?_; intro e1 w1 hh; obtain ⟨ja, jc, rfl, ho1, hb1⟩ := hh.out)
  have HB1 : Hid (Below w.heap.size w w1) := hb1
  clear hh ho1 hb1 H30
  go_wp2
  go_ret
  exact ⟨rfl, HB1.out⟩
theorem rfeed_bad (g : Nat) (ea : Option Addr) (en ec : Nat) (xa : Option Addr) (xn xc : Nat) (xs : List Value) (yss : List (List Int)) (w : World) (hP : PV w (.slice xa xn xc) xs yss) (hxn : xs.length = xn) (hl : yss.flatten.length ≤ 1048576) (hxb : xn ≤ 1048576) (h : fdE en yss.flatten.length ≠ 0) :
    Calls Tryd.prog 36 #[.pointer (some ⟨g, 0, none⟩), .slice ea en ec, .slice xa xn xc] w fun e w' => Hid (FbP w w' e (fdE en yss.flatten.length)) := by
  unfold fdE at h ⊢
  by_cases h1 : en < 16 ∨ 65536 < en
  · rw [if_pos h1]
    by_cases h1' : en < 16
    · exact rfeed_60a g ea en ec xa xn xc xs yss w hP hxn hl hxb h1'
    · exact rfeed_60b g ea en ec xa xn xc xs yss w hP hxn hl hxb h1' (by omega)
  · rw [if_neg h1] at h ⊢
    by_cases h2 : 65536 < yss.flatten.length
    · rw [if_pos h2]
      exact rfeed_4 g ea en ec xa xn xc xs yss w hP hxn hl hxb (by omega) (by omega) h2
    · rw [if_neg h2] at h
      exact absurd rfl h
set_option maxHeartbeats 1600000 in
set_option maxRecDepth 100000 in
/-- long, of what is not. -/
theorem long_ok (a : Option Addr) (n c : Nat) (xs : List Value) (yss : List (List Int)) (w : World) (hP : Hid (PV w (.slice a n c) xs yss)) (hxn : Hid (xs.length = n)) (hs : Hid (yss.flatten.length ≤ 262144)) (hn : n ≤ 4611686018427387904) :
    Calls Tryd.prog 33 #[.slice a n c] w fun e w' => e = .returned (.bool false) ∧ w' = w := by
  have hyn : Hid (yss.length = n) := by
    obtain ⟨_, _, _, _, _, h3, _⟩ := hP.out
    show _ = _
    rw [← h3, hxn.out]
  go_enter Tryd.func33, Tryd.ntmps33
  go_wp2
  go_loopw [3, 4] (fun vn vi wr => ∃ i l : Nat, Hid (l = ((yss.take i).flatten).length) ∧ i ≤ n ∧ l ≤ 262144 ∧ vi = .int .i64 i ∧ vn = .int .i64 (l : Nat) ∧ wr = w) (fun _ vi _ => n - (intOf vi).toNat)
  case atStart => exact ⟨0, 0, rfl, by omega, by omega, rfl, rfl, rfl⟩
  case round =>
    obtain ⟨i, l, HL, hin, hl2, rfl, rfl, hw⟩ := hrel
    obtain rfl := hw.symm
    have q1 : decide (((l : Nat) : Int) ≤ 262144) = true := by simp; omega
    by_cases hlt : i < n
    · have hii : i < xs.length := by rw [hxn.out]; exact hlt
      obtain ⟨x, hx⟩ : ∃ x, xs[i]? = some x := ⟨_, List.getElem?_eq_getElem hii⟩
      obtain ⟨b, p, hab⟩ : ∃ b p, a = some ⟨b, p, none⟩ := by
        obtain ⟨a', c', e, h1, h2, h3, h4, h5⟩ := hP.out
        injection e with e1 e2 e3
        rcases h5 with h5 | ⟨b, p, e5, _⟩
        · rw [h5] at hii; simp at hii
        · exact ⟨b, p, by rw [e1, e5]⟩
      subst hab
      have hcell : w.cell? ⟨b, p + i, none⟩ = some x ∧ View w x (yss.getD i []) := by
        obtain ⟨a', c', e, h1, h2, h3, h4, h5⟩ := hP.out
        injection e with e1 e2 e3
        rcases h5 with h5 | ⟨b', p', e5, h6⟩
        · rw [h5] at hii; simp at hii
        · rw [e5] at e1
          injection e1 with e1
          injection e1 with e6 e7
          subst e6 e7
          exact ⟨h6 i x hx, h4 i x hx⟩
      obtain ⟨ya, yc, m, HM, hxe⟩ : ∃ ya yc m, Hid (m = (yss.getD i []).length) ∧ x = .slice ya m yc := by
        obtain ⟨ya, yc, e, _⟩ := hcell.2
        exact ⟨ya, yc, _, rfl, e⟩
      subst hxe
      have f0 := hcell.1
      have hst : l + m = ((yss.take (i + 1)).flatten).length := by rw [flat_step yss i (by rw [hyn.out]; exact hlt), List.length_append, HL.out, HM.out]
      have hm2 : l + m ≤ 262144 := by
        have h1 := sum_le yss (i + 1)
        have h2 := hs.out
        omega
      have HST : Hid (l + m = ((yss.take (i + 1)).flatten).length) := hst
      clear hcell hx hst
      have q2 : decide (((i : Nat) : Int) < (n : Nat)) = true := by simp; omega
      go_wp2
      go_roundw
      case rel => exact ⟨i + 1, l + m, HST, by omega, by omega, by go_num, by go_num, trivial⟩
      case measure => simp [intOf]; omega
    · have q2 : decide (((i : Nat) : Int) < (n : Nat)) = false := by simp; omega
      have q3 : ¬ (262144 : Int) < (l : Nat) := by omega
      go_wp2
      go_ret
      exact ⟨rfl, rfl⟩
end Go.Proofs.YtkeklmkaleomkaaDoor
namespace Go.Proofs.YtkeklmkaleomkaaDoor
open Go.RowKit
set_option linter.unusedVariables false
theorem cell_other2 (w : World) (g i j : Nat) (v : Value) (h : i ≠ j) : (w.setCell ⟨g, i, none⟩ v).cell? ⟨g, j, none⟩ = w.cell? ⟨g, j, none⟩ :=
  World.cell?_setCell_other w ⟨g, i, none⟩ ⟨g, j, none⟩ v (fun e => h (by cases e; rfl))
theorem ownsRow_base {w : World} {b b' e size n : Nat} {v : Value} {xs : List Value} (h : w.ownsRow b e size v n xs) (hb : b' ≤ b) : w.ownsRow b' e size v n xs := by
  obtain ⟨h1, h2 | ⟨g, c, cur, q1, q2, q3⟩⟩ := h
  · exact ⟨h1, Or.inl h2⟩
  · exact ⟨h1, Or.inr ⟨g, c, cur, q1, Nat.le_trans hb q2, q3⟩⟩
theorem Touch.grown {w w' : World} {g o n : Nat} (h : Touch w w' g o n) : w.grownBy w' (some g) := ⟨h.os, h.tape, h.output, h.size, fun k hk hne => h.block k hk (fun e => hne (by rw [e]))⟩
set_option maxHeartbeats 1600000 in
set_option maxRecDepth 100000 in
/-- A list without spare room. -/
theorem spoil_full (n g : Nat) (ys : Nat → Int) (w : World) (hn : n ≤ 200000) (hg : g < w.heap.size) (hc : ∀ j, j < n → w.cell? ⟨g, j, none⟩ = some (.int .u8 (ys j))) (hr : w.there g 0 n) :
    Calls Tryd.prog 21 #[.slice (some ⟨g, 0, none⟩) n n] w fun e w' => e = .returned (.tuple #[]) ∧ w.grownBy w' (some g) := by
  obtain ⟨i0, hi, hz0, hz1, hz2⟩ := info_parts Tryd.info5
  have HR : Hid (w.there g 0 n) := hr
  have HC : Hid (∀ j, j < n → w.cell? ⟨g, j, none⟩ = some (.int .u8 (ys j))) := hc
  clear hr hc
  go_enter Tryd.func21, Tryd.ntmps21
  go_wp2
  go_loopw [2] (fun i wr => ∃ k : Nat, k ≤ n ∧ i = .int .i64 k ∧ Hid (Touch w wr g 0 n ∧ ∃ zs : Nat → Int, ∀ j, j < n → wr.cell? ⟨g, j, none⟩ = some (.int .u8 (zs j)))) (fun i _ => n - (intOf i).toNat)
  case atStart => exact ⟨0, by omega, rfl, Touch.refl _ _ _ _, ys, HC.out⟩
  case round =>
    obtain ⟨k, hk, rfl, HT⟩ := hrel
    by_cases hlt : k < n
    · obtain ⟨ht, zs, hz⟩ := HT.out
      have hcell := hz k hlt
      have hfr : wr.frozen? ⟨g, k, none⟩ = false := by have := (ht.there _ _ HR.out k hlt).2; rwa [Nat.zero_add] at this
      have HT2 : Hid (Touch w wr g 0 n ∧ ∀ j, j < n → wr.cell? ⟨g, j, none⟩ = some (.int .u8 (zs j))) := ⟨ht, hz⟩
      clear hz ht HT
      go_wp2
      refine ⟨⟨k + 1, by omega, rfl, HT2.out.1.setCell k _ (by omega) (by omega), fun j => if j = k then bits .xor .u8 (zs k) 165 else zs j, fun j hj => ?_⟩, ?_⟩
      · by_cases hjk : j = k
        · subst hjk
          simp only [if_pos]
          exact World.cell?_setCell_same' _ _ _ (by rw [hcell]; rfl)
        · simp only [if_neg hjk]
          rw [cell_other2 _ _ _ _ _ (Ne.symm hjk)]
          exact HT2.out.2 j hj
      · simp only [intOf]; omega
    · obtain rfl : k = n := by omega
      obtain ⟨ht, zs, hz⟩ := HT.out
      obtain ⟨OL, HOL⟩ : ∃ OL, Hid (OL = (List.range k).map fun j => Value.int .u8 (zs j)) := ⟨_, rfl⟩
      have HG : Hid (w.grownBy wr (some g)) := ht.grown
      have hgw : g < wr.heap.size := Nat.lt_of_lt_of_le hg ht.size
      go_wp2_with (first | (at_builtin; go_must (refine wpList_append_grows _ rfl (.tmp 18) (.tmp 19) 22 rfl 5 i0 (.int .u8 0) 1 1 Tryd.underlying22 hi hz0 hz1 hz2 rfl (by decide) _ k k OL rfl (fun h => by cases h) ?_ ?_ ⟨wr.heap.size, 0, none⟩ 1 1 (cellsU8 [1]) rfl rfl (World.news_of_block (heap_alloc_new wr _)) (cellsU8_one _) (by omega) (by unfold maxLen; omega) (by omega) ?_)))
      · rw [HOL.out]; simp
      · intro b hb j u hu
        cases hb
        rw [HOL.out] at hu
        have hj : j < k := by have := (List.getElem?_eq_some_iff.1 hu).1; simpa using this
        rw [List.getElem?_map, List.getElem?_range hj] at hu
        cases hu
        rw [Addr.add_lit, World.cell?_alloc_past _ _ _ hgw, Nat.zero_add]
        exact hz j hj
      intro v1 w1 own1 hgr1
      have hlen : ∃ g1 cp1, v1 = .slice (some ⟨g1, 0, none⟩) (k + 1) cp1 ∧ Hid (w.heap.size ≤ g1 ∧ w1.ownsRow w.heap.size 5 1 (.slice (some ⟨g1, 0, none⟩) (k + 1) cp1) (k + 1) (cellsU8 ((List.range k).map zs ++ [1]))) := by
        have hsz := ht.size
        have hb : w.heap.size ≤ wr.heap.size + 1 := by omega
        have own2 := ownsRow_base own1 hb
        rcases own1.2 with ⟨_, h0⟩ | ⟨g1, cp1, cur, rfl, q2, _⟩
        · omega
        · refine ⟨g1, cp1, rfl, by omega, ?_⟩
          have e1 : cellsU8 ((List.range k).map zs ++ [1]) = OL ++ cellsU8 [1] := by rw [cellsU8_append, HOL.out]; simp [cellsU8]
          rw [e1]
          exact own2
      obtain ⟨g1, cp1, rfl, HO⟩ := hlen
      have HG1 : Hid (w.grownBy w1 (some g)) := grown_trans (grown_trans HG.out (World.grownBy_alloc wr _ none) (fun _ _ _ => by simp)) hgr1 (fun q _ hq => by simp)
      have HA1 : Hid (w.heap.size ≤ g1) := HO.out.1
      have HO1 : Hid (w1.ownsRow w.heap.size 5 1 (.slice (some ⟨g1, 0, none⟩) (k + 1) cp1) (k + 1) (cellsU8 ((List.range k).map zs ++ [1]))) := HO.out.2
      clear own1 hgr1 HO hz ht HT HG hgw hlt hk HOL HC HR
      go_wp2
      go_loopw [0, 3] (fun l i wr => ∃ j : Nat, j ≤ 70 ∧ i = .int .i64 j ∧ Hid (w.grownBy wr (some g)) ∧ ∃ g2 c2 ys2, l = .slice (some ⟨g2, 0, none⟩) (k + 1 + j) c2 ∧ wr.ownsRow w.heap.size 5 1 (.slice (some ⟨g2, 0, none⟩) (k + 1 + j) c2) (k + 1 + j) (cellsU8 ys2) ∧ Hid (w.heap.size ≤ g2)) (fun _ i _ => 70 - (intOf i).toNat)
      case atStart => exact ⟨0, by omega, rfl, HG1, g1, cp1, _, rfl, HO1, HA1⟩
      case round =>
        obtain ⟨j, hj, rfl, HG2, g2, c2, ys2, rfl, own2, HA2⟩ := hrel
        clear HG1 HA1 HO1
        by_cases hlt : j < 70
        · go_wp2_with (first | (at_builtin; go_must (refine wpList_append_lies _ rfl (.tmp 25) (.tmp 30) 22 rfl w.heap.size 5 i0 (.int .u8 0) 1 1 Tryd.underlying22 hi hz0 hz1 hz2 rfl (by decide) _ _ _ rfl (own2.alloc _) ⟨wr.heap.size, 0, none⟩ 1 1 (cellsU8 [IntKind.u8.wrap (7 * (j : Int) + 3)]) rfl rfl (World.news_of_block (heap_alloc_new wr _)) (cellsU8_one _) (by decide) (by unfold maxLen; omega) (by omega) (by have := HG2.out.size; simp; omega) (wr.heap.size + 1) (by simp) ?_)))
          intro g3 cp3 w3 own3 hgr3 hat3 hlt3
          have HG3 : Hid (w.grownBy w3 (some g)) := grown_trans (grown_trans HG2.out (World.grownBy_alloc wr _ none) (fun _ _ _ => by simp)) hgr3 (fun q hq hne => by
            intro h
            simp only [Value.ownBlock, Option.some.injEq] at h
            have e := HA2.out
            omega)
          have HA3 : Hid (w.heap.size ≤ g3) := by
            rcases hat3 with h | h
            · simp only [Value.ownBlock, Option.some.injEq] at h
              rw [← h]
              exact HA2
            · have := HG2.out.size
              show _ ≤ _
              omega
          have HO3 : Hid (w3.ownsRow w.heap.size 5 1 (.slice (some ⟨g3, 0, none⟩) (k + 1 + (j + 1)) cp3) (k + 1 + (j + 1)) (cellsU8 (ys2 ++ [IntKind.u8.wrap (7 * (j : Int) + 3)]))) := by
            rw [cellsU8_append]
            exact own3
          clear own3 hgr3 hat3 hlt3 own2 HG2 HA2
          go_wp2
          go_roundw
          case rel => exact ⟨j + 1, by omega, by go_num, HG3, g3, cp3, _, rfl, HO3, HA3⟩
          case measure => simp [intOf]; omega
        · obtain rfl : j = 70 := by omega
          have hcell : wr.cell? ⟨g2, k + 70, none⟩ = some (.int .u8 (ys2.getD (k + 70) 0)) := by
            have hl2 : ys2.length = k + 1 + 70 := by have := own2.1; rw [cellsU8_length] at this; omega
            rw [own2.cellAt (k + 70) (by omega), cellsU8, List.getElem?_map, List.getElem?_eq_getElem (show k + 70 < ys2.length by omega)]
            simp [List.getD, List.getElem?_eq_getElem (show k + 70 < ys2.length by omega)]
          have hfr : wr.frozen? ⟨g2, k + 70, none⟩ = false := own2.frozenAt _
          have HO : Hid (wr.ownsRow w.heap.size 5 1 (.slice (some ⟨g2, 0, none⟩) (k + 1 + 70) c2) (k + 1 + 70) (cellsU8 ys2)) := own2
          clear own2 hlt
          go_wp2
          go_end0
          have hst := HO.out.stored (k + 70) (.int .u8 77)
          refine ⟨rfl, grown_trans HG2.out hst.2 (fun q hq hne => ?_)⟩
          intro h
          simp only [Option.some.injEq] at h
          have e := HA2.out
          omega
end Go.Proofs.YtkeklmkaleomkaaDoor
namespace Go.Proofs.YtkeklmkaleomkaaDoor
open Go.RowKit
set_option linter.unusedVariables false
set_option linter.unusedSimpArgs false
/-- A side: the program's spring at g, the document's at h. -/
structure Desc where
  g : Nat
  h : Nat
  dg : Int
  K : Nat → Int
  V : Nat → Int
  L : Int
  c : Int
  ka : Option Addr
  kc : Nat
  va : Option Addr
  vc : Nat
def ablk : Option Addr → List Nat
  | none => []
  | some a => [a.block]
def vblk (x : Value) : List Nat := (Value.ownBlock x).toList
structure DAt (w : World) (B : Nat) (d : Desc) : Prop where
  sp : SpAt w d.g d.dg d.K d.V d.L d.c
  rs : RSp w d.h d.dg d.L d.c d.ka d.kc d.va d.vc (fL d.K (szOf d.dg)) (fL d.V (szOf d.dg))
  kn : Known d.dg
  c0 : 0 ≤ d.c
  cL : d.c ≤ d.L
  lL : d.L ≤ 16777216
  gB : B ≤ d.g
  hB : B ≤ d.h
/-- What is written of a side, and what is only read. -/
def omb : Option Desc → List Nat
  | none => []
  | some d => [d.g, d.h]
def orb : Option Desc → List Nat
  | none => []
  | some d => ablk d.ka ++ ablk d.va
def optg : Option Desc → Value
  | none => .pointer none
  | some d => .pointer (some ⟨d.g, 0, none⟩)
def opth : Option Desc → Value
  | none => .pointer none
  | some d => .pointer (some ⟨d.h, 0, none⟩)
def Same (w v : World) (l : List Nat) : Prop := ∀ b, b ∈ l → v.heap[b]? = w.heap[b]?
theorem Same.left {w v : World} {l r : List Nat} (h : Same w v (l ++ r)) : Same w v l := fun b hb => h b (List.mem_append_left _ hb)
theorem Same.right {w v : World} {l r : List Nat} (h : Same w v (l ++ r)) : Same w v r := fun b hb => h b (List.mem_append_right _ hb)
theorem DAt.keep {w v : World} {B : Nat} {d : Desc} (s : DAt w B d) (h1 : Same w v (omb (some d))) (h2 : Same w v (orb (some d))) : DAt v B d := by
  have hk : ∀ b off, d.ka = some ⟨b, off, none⟩ → v.heap[b]? = w.heap[b]? := fun b off e => h2 b (List.mem_append_left _ (by rw [e]; exact List.mem_singleton.2 rfl))
  have hv : ∀ b off, d.va = some ⟨b, off, none⟩ → v.heap[b]? = w.heap[b]? := fun b off e => h2 b (List.mem_append_right _ (by rw [e]; exact List.mem_singleton.2 rfl))
  exact ⟨s.sp.block (h1 _ (by simp [omb])), s.rs.blk (h1 _ (by simp [omb])) hk hv, s.kn, s.c0, s.cL, s.lL, s.gB, s.hB⟩
theorem owns_same {w v : World} {B e s n : Nat} {x : Value} {cs : List Value} (h : w.ownsRow B e s x n cs) (hb : Same w v (vblk x)) : v.ownsRow B e s x n cs := by
  refine ⟨h.1, ?_⟩
  rcases h.2 with hn | ⟨g, cap, cur, rfl, h1, h2, r⟩
  · exact .inl hn
  · exact .inr ⟨g, cap, cur, rfl, h1, (hb g (by simp [vblk, Value.ownBlock])).trans h2, r⟩
/-- What is written of the whole. -/
def PMb (m : Nat) (d0 d1 : Option Desc) (ov wv : Value) : List Nat := [m] ++ (omb d0 ++ (omb d1 ++ (vblk ov ++ vblk wv)))
/-- The two springs of either, at m. -/
structure PS (w : World) (B m : Nat) (d0 d1 : Option Desc) (ov wv : Value) (n : Nat) (os ws : List Value) (left : Int) : Prop where
  s0 : w.cell? ⟨m, 0, none⟩ = some (optg d0)
  s1 : w.cell? ⟨m, 1, none⟩ = some (optg d1)
  t0 : w.cell? ⟨m, 2, none⟩ = some (opth d0)
  t1 : w.cell? ⟨m, 3, none⟩ = some (opth d1)
  co : w.cell? ⟨m, 4, none⟩ = some ov
  cw : w.cell? ⟨m, 5, none⟩ = some wv
  cl : w.cell? ⟨m, 6, none⟩ = some (.int .i64 left)
  there : w.there m 0 7
  D0 : ∀ d, d0 = some d → DAt w B d
  D1 : ∀ d, d1 = some d → DAt w B d
  out : w.ownsRow B 22 1 ov n os
  was : w.ownsRow B 22 1 wv n ws
  mB : B ≤ m
  nod : (PMb m d0 d1 ov wv).Nodup
  ro : ∀ b, b ∈ orb d0 ++ orb d1 → b < w.heap.size ∧ B ≤ b ∧ b ∉ PMb m d0 d1 ov wv
  l0 : 0 ≤ left
  l1 : left ≤ 1048576
theorem PS.keep {w v : World} {B m n : Nat} {d0 d1 : Option Desc} {ov wv : Value} {os ws : List Value} {left : Int} (s : PS w B m d0 d1 ov wv n os ws left) (h1 : Same w v (PMb m d0 d1 ov wv)) (h2 : Same w v (orb d0 ++ orb d1)) (hs : w.heap.size ≤ v.heap.size) : PS v B m d0 d1 ov wv n os ws left := by
  have hb : v.heap[m]? = w.heap[m]? := h1.left m (List.mem_singleton.2 rfl)
  have hc : ∀ j, v.cell? ⟨m, j, none⟩ = w.cell? ⟨m, j, none⟩ := fun j => World.cell?_of_block (a := ⟨m, j, none⟩) hb
  have hf : ∀ j, v.frozen? ⟨m, j, none⟩ = w.frozen? ⟨m, j, none⟩ := fun j => World.frozen?_of_block (a := ⟨m, j, none⟩) hb
  refine ⟨by rw [hc]; exact s.s0, by rw [hc]; exact s.s1, by rw [hc]; exact s.t0, by rw [hc]; exact s.t1, by rw [hc]; exact s.co, by rw [hc]; exact s.cw, by rw [hc]; exact s.cl, fun j hj => by rw [hc, hf]; exact s.there j hj, fun d e => ?_, fun d e => ?_, owns_same s.out h1.right.right.right.left, owns_same s.was h1.right.right.right.right, s.mB, s.nod, fun b hb => ⟨Nat.lt_of_lt_of_le (s.ro b hb).1 hs, (s.ro b hb).2⟩, s.l0, s.l1⟩
  · subst e
    exact (s.D0 d rfl).keep h1.right.left h2.left
  · subst e
    exact (s.D1 d rfl).keep h1.right.right.left h2.right
/-- All written blocks are there. -/
theorem PS.lt {w : World} {B m n : Nat} {d0 d1 : Option Desc} {ov wv : Value} {os ws : List Value} {left : Int} (s : PS w B m d0 d1 ov wv n os ws left) : ∀ b, b ∈ PMb m d0 d1 ov wv → B ≤ b ∧ b < w.heap.size := by
  intro b hb
  simp only [PMb, List.mem_append, List.mem_singleton] at hb
  rcases hb with rfl | hb | hb | hb | hb
  · exact ⟨s.mB, lt_of_cell s.s0⟩
  · cases d0 with
    | none => cases hb
    | some d =>
      have q := s.D0 d rfl
      simp only [omb, List.mem_cons, List.not_mem_nil, or_false] at hb
      rcases hb with rfl | rfl
      · exact ⟨q.gB, q.sp.lt⟩
      · exact ⟨q.hB, q.rs.lt⟩
  · cases d1 with
    | none => cases hb
    | some d =>
      have q := s.D1 d rfl
      simp only [omb, List.mem_cons, List.not_mem_nil, or_false] at hb
      rcases hb with rfl | rfl
      · exact ⟨q.gB, q.sp.lt⟩
      · exact ⟨q.hB, q.rs.lt⟩
  · exact s.out.lt b (by simpa [vblk] using hb)
  · exact s.was.lt b (by simpa [vblk] using hb)
theorem PS.below {w v : World} {B m n : Nat} {d0 d1 : Option Desc} {ov wv : Value} {os ws : List Value} {left : Int} (s : PS w B m d0 d1 ov wv n os ws left) (h : Below w.heap.size w v) : PS v B m d0 d1 ov wv n os ws left :=
  s.keep (fun b hb => h.block b (s.lt b hb).2) (fun b hb => h.block b (s.ro b hb).1) h.size
/-- Copies that came behind are changed. -/
theorem PS.kw {w u v : World} {B m n : Nat} {d0 d1 : Option Desc} {ov wv : Value} {os ws vs : List Value} {left : Int} (s : PS u B m d0 d1 ov wv n os ws left) (h : Kw u v vs) (hn : ∀ (i : Nat) (x : Value), vs[i]? = some x → ∀ q, Value.ownBlock x = some q → q ∉ PMb m d0 d1 ov wv ∧ q ∉ orb d0 ++ orb d1) : PS v B m d0 d1 ov wv n os ws left :=
  s.keep (fun b hb => h.block b (s.lt b hb).2 (fun i x hx e => (hn i x hx b e).1 hb)) (fun b hb => h.block b (s.ro b hb).1 (fun i x hx e => (hn i x hx b e).2 hb)) h.size
/-- A row that is none of them is changed. -/
theorem PS.grown {w v : World} {B m n : Nat} {d0 d1 : Option Desc} {ov wv : Value} {os ws : List Value} {left : Int} {q : Nat} (s : PS w B m d0 d1 ov wv n os ws left) (h : w.grownBy v (some q)) (h1 : q ∉ PMb m d0 d1 ov wv) (h2 : q ∉ orb d0 ++ orb d1) : PS v B m d0 d1 ov wv n os ws left :=
  s.keep (fun b hb => h.block b (s.lt b hb).2 (fun e => h1 (by injection e with e; rw [← e]; exact hb))) (fun b hb => h.block b (s.ro b hb).1 (fun e => h2 (by injection e with e; rw [← e]; exact hb))) h.size
end Go.Proofs.YtkeklmkaleomkaaDoor
namespace Go.Proofs.YtkeklmkaleomkaaDoor
open Go.RowKit
set_option linter.unusedVariables false
set_option linter.unusedSimpArgs false
/-- An Op in a block. -/
structure OAt (u : World) (s : Nat) (kd at_ n : Int) (x y : Value) : Prop where
  c0 : u.cell? ⟨s, 0, none⟩ = some (.int .i64 kd)
  c1 : u.cell? ⟨s, 1, none⟩ = some (.int .i64 at_)
  c2 : u.cell? ⟨s, 2, none⟩ = some (.int .i64 n)
  c3 : u.cell? ⟨s, 3, none⟩ = some x
  c4 : u.cell? ⟨s, 4, none⟩ = some y
theorem OAt.blk {u v : World} {s : Nat} {kd at_ n : Int} {x y : Value} (a : OAt u s kd at_ n x y) (hb : v.heap[s]? = u.heap[s]?) : OAt v s kd at_ n x y := by
  have hc : ∀ j, v.cell? ⟨s, j, none⟩ = u.cell? ⟨s, j, none⟩ := fun j => World.cell?_of_block (a := ⟨s, j, none⟩) hb
  exact ⟨by rw [hc]; exact a.c0, by rw [hc]; exact a.c1, by rw [hc]; exact a.c2, by rw [hc]; exact a.c3, by rw [hc]; exact a.c4⟩
theorem OAt.below {u v : World} {s : Nat} {kd at_ n : Int} {x y : Value} (a : OAt u s kd at_ n x y) (b : Below u.heap.size u v) : OAt v s kd at_ n x y := a.blk (b.block s (lt_of_cell a.c0))
theorem OAt.new (w : World) (kd at_ n : Int) (x y : Value) (t : TypeId) : OAt (w.alloc (.cells #[.int .i64 kd, .int .i64 at_, .int .i64 n, x, y] t)) w.heap.size kd at_ n x y := by
  have r := rangeAt_new w #[.int .i64 kd, .int .i64 at_, .int .i64 n, x, y] t
  exact ⟨r 0 _ rfl, r 1 _ rfl, r 2 _ rfl, r 3 _ rfl, r 4 _ rfl⟩
theorem left_any {w : World} {B : Nat} {d : Option Desc} (hD : ∀ d', d = some d' → DAt w B d') : ∃ r : Int, (∀ m, Calls Tryd.prog 16 #[optg d] (w.drewN m) fun e w' => e = .returned (.int .i64 r) ∧ ∃ m', w' = (w.drewN m).drewN m') ∧ (∀ m, Calls Tryd.prog 37 #[opth d] (w.drewN m) fun e w' => e = .returned (.int .i64 r) ∧ ∃ m', w' = (w.drewN m).drewN m') := by
  cases d with
  | none => exact ⟨0, fun m => (spleft_nil _).mono fun _ _ ⟨h1, h2⟩ => ⟨h1, 0, h2⟩, fun m => (rleft_nil _).mono fun _ _ ⟨h1, h2⟩ => ⟨h1, 0, h2⟩⟩
  | some d =>
    have q := hD d rfl
    have a0 := q.c0
    have a1 := q.cL
    have a2 := q.lL
    exact ⟨d.L - d.c, fun m => spleft d.g d.dg d.K d.V d.L d.c _ (q.sp.block rfl) (by omega) (by omega) (by omega) (by omega), fun m => rleft_ok d.h d.dg d.L d.c d.ka d.va d.kc d.vc _ _ _ (q.rs.blk rfl (fun _ _ _ => rfl) (fun _ _ _ => rfl)) (by omega) (by omega) (by omega) (by omega)⟩
/-- Left. -/
def LeftP (w w' : World) (e : Ending) : Prop := e = .returned (.bool true) ∧ Below w.heap.size w w'
set_option maxHeartbeats 3200000 in
set_option maxRecDepth 100000 in
theorem plays_left0 (B m : Nat) (d0 d1 : Option Desc) (ov wv : Value) (nn : Nat) (os ws : List Value) (left : Int) (at_ n : Int) (ea xa : Option Addr) (en ec xn xc : Nat) (xs : List Value) (yss : List (List Int)) (w : World) (hs : Hid (PS w B m d0 d1 ov wv nn os ws left)) (hP : Hid (PV w (.slice xa xn xc) xs yss)) (hxn : Hid (xs.length = xn)) (hl : Hid (yss.flatten.length ≤ 262144)) (hn : xn ≤ 1048576) (hat : at_.tmod 2 = 0) :
    Calls Tryd.prog 20 #[.pointer (some ⟨m, 0, none⟩), .agg #[.int .i64 3, .int .i64 at_, .int .i64 n, .slice ea en ec, .slice xa xn xc]] w fun e w' => Hid (LeftP w w' e) := by
  go_enter Tryd.func20, Tryd.ntmps20
  go_upto_region 1 with fail
  have HA0 : Hid (OAt (w.alloc (.cells #[.int .i64 3, .int .i64 at_, .int .i64 n, .slice ea en ec, .slice xa xn xc] 39)) w.heap.size 3 at_ n (.slice ea en ec) (.slice xa xn xc) ∧ Below w.heap.size w (w.alloc (.cells #[.int .i64 3, .int .i64 at_, .int .i64 n, .slice ea en ec, .slice xa xn xc] 39)) ∧ (w.alloc (.cells #[.int .i64 3, .int .i64 at_, .int .i64 n, .slice ea en ec, .slice xa xn xc] 39)).heap.size = w.heap.size + 1) := ⟨OAt.new _ _ _ _ _ _ _, below_alloc1 _ _, size_alloc1 _ _⟩
  generalize w.alloc (.cells #[.int .i64 3, .int .i64 at_, .int .i64 n, .slice ea en ec, .slice xa xn xc] 39) = w0 at HA0 ⊢
  have c1 := HA0.out.1.c1
  have HP0 : Hid (PV w0 (.slice xa xn xc) xs yss) := hP.out.kept fun q hq => HA0.out.2.1.block q hq
  have c4 := HA0.out.1.c4
  have HL : Hid (Calls Tryd.prog 33 #[.slice xa xn xc] w0 fun e w' => e = .returned (.bool false) ∧ w' = w0) := long_ok xa xn xc xs yss w0 HP0 hxn hl (by omega)
  go_upto_region 6 with (go_at_call 33; refine HL.out.mono ?_; rintro e1 w1 ⟨rfl, hw1⟩; obtain rfl := hw1.symm)
  have H34 : Hid (Calls Tryd.prog 34 #[.slice xa xn xc] w0 fun e w' => Hid (∃ v', e = .returned v' ∧ ∃ vs, vs.length = xn ∧ w'.ownsRow w0.heap.size 22 1 v' xn vs ∧ Lent w0.heap.size w' vs yss ∧ Inc vs ∧ Below w0.heap.size w0 w')) := lent_ok xa xn xc xs yss w0 HP0 hxn (by show _ ≤ _; have := hl.out; omega) hn
  go_upto_region 7 with (go_at_call 34; refine H34.out.mono ?_; intro e2 w2 hh; obtain ⟨v', rfl, vs, hv1, hv2, hv3, hv4, hv5⟩ := hh.out)
  have HB2 : Hid (Below w.heap.size w w2) := HA0.out.2.1.trans (hv5.mono HA0.out.2.1.size)
  have HA2 : Hid (OAt w2 w.heap.size 3 at_ n (.slice ea en ec) (.slice xa xn xc)) := HA0.out.1.below hv5
  have HS2 : Hid (PS w2 B m d0 d1 ov wv nn os ws left) := hs.out.below HB2.out
  clear hh hv1 hv2 hv3 hv4 hv5 H34 c1 c4 HL HP0 HA0
  have c0 := HA2.out.c0
  go_upto_region 27 with fail
  have k0 := HS2.out.s0
  have k1 := HS2.out.t0
  obtain ⟨r, h16, h37⟩ := left_any HS2.out.D0
  have H16 : Hid (∀ m, Calls Tryd.prog 16 #[optg d0] (w2.drewN m) fun e w' => e = .returned (.int .i64 r) ∧ ∃ m', w' = (w2.drewN m).drewN m') := h16
  have H37 : Hid (∀ m, Calls Tryd.prog 37 #[opth d0] (w2.drewN m) fun e w' => e = .returned (.int .i64 r) ∧ ∃ m', w' = (w2.drewN m).drewN m') := h37
  clear h16 h37
  go_quiet (first | (go_at_call 16; refine Calls.quiet_of (H16.out _)) | (go_at_call 37; refine Calls.quiet_of (H37.out _)))
  have HF : Hid (Below w.heap.size w (w2.drewN nq)) := HB2.out.trans ((below_drewN w2 nq).mono HB2.out.size)
  generalize w2.drewN nq = w3 at HF ⊢
  clear c0 k0 k1 H16 H37 HA2 HS2 HB2
  go_wp2
  go_ret
  exact ⟨rfl, HF.out⟩
set_option maxHeartbeats 3200000 in
set_option maxRecDepth 100000 in
theorem plays_left1 (B m : Nat) (d0 d1 : Option Desc) (ov wv : Value) (nn : Nat) (os ws : List Value) (left : Int) (at_ n : Int) (ea xa : Option Addr) (en ec xn xc : Nat) (xs : List Value) (yss : List (List Int)) (w : World) (hs : Hid (PS w B m d0 d1 ov wv nn os ws left)) (hP : Hid (PV w (.slice xa xn xc) xs yss)) (hxn : Hid (xs.length = xn)) (hl : Hid (yss.flatten.length ≤ 262144)) (hn : xn ≤ 1048576) (hat : at_.tmod 2 = 1) :
    Calls Tryd.prog 20 #[.pointer (some ⟨m, 0, none⟩), .agg #[.int .i64 3, .int .i64 at_, .int .i64 n, .slice ea en ec, .slice xa xn xc]] w fun e w' => Hid (LeftP w w' e) := by
  go_enter Tryd.func20, Tryd.ntmps20
  go_upto_region 1 with fail
  have HA0 : Hid (OAt (w.alloc (.cells #[.int .i64 3, .int .i64 at_, .int .i64 n, .slice ea en ec, .slice xa xn xc] 39)) w.heap.size 3 at_ n (.slice ea en ec) (.slice xa xn xc) ∧ Below w.heap.size w (w.alloc (.cells #[.int .i64 3, .int .i64 at_, .int .i64 n, .slice ea en ec, .slice xa xn xc] 39)) ∧ (w.alloc (.cells #[.int .i64 3, .int .i64 at_, .int .i64 n, .slice ea en ec, .slice xa xn xc] 39)).heap.size = w.heap.size + 1) := ⟨OAt.new _ _ _ _ _ _ _, below_alloc1 _ _, size_alloc1 _ _⟩
  generalize w.alloc (.cells #[.int .i64 3, .int .i64 at_, .int .i64 n, .slice ea en ec, .slice xa xn xc] 39) = w0 at HA0 ⊢
  have c1 := HA0.out.1.c1
  have HP0 : Hid (PV w0 (.slice xa xn xc) xs yss) := hP.out.kept fun q hq => HA0.out.2.1.block q hq
  have c4 := HA0.out.1.c4
  have HL : Hid (Calls Tryd.prog 33 #[.slice xa xn xc] w0 fun e w' => e = .returned (.bool false) ∧ w' = w0) := long_ok xa xn xc xs yss w0 HP0 hxn hl (by omega)
  go_upto_region 6 with (go_at_call 33; refine HL.out.mono ?_; rintro e1 w1 ⟨rfl, hw1⟩; obtain rfl := hw1.symm)
  have H34 : Hid (Calls Tryd.prog 34 #[.slice xa xn xc] w0 fun e w' => Hid (∃ v', e = .returned v' ∧ ∃ vs, vs.length = xn ∧ w'.ownsRow w0.heap.size 22 1 v' xn vs ∧ Lent w0.heap.size w' vs yss ∧ Inc vs ∧ Below w0.heap.size w0 w')) := lent_ok xa xn xc xs yss w0 HP0 hxn (by show _ ≤ _; have := hl.out; omega) hn
  go_upto_region 7 with (go_at_call 34; refine H34.out.mono ?_; intro e2 w2 hh; obtain ⟨v', rfl, vs, hv1, hv2, hv3, hv4, hv5⟩ := hh.out)
  have HB2 : Hid (Below w.heap.size w w2) := HA0.out.2.1.trans (hv5.mono HA0.out.2.1.size)
  have HA2 : Hid (OAt w2 w.heap.size 3 at_ n (.slice ea en ec) (.slice xa xn xc)) := HA0.out.1.below hv5
  have HS2 : Hid (PS w2 B m d0 d1 ov wv nn os ws left) := hs.out.below HB2.out
  clear hh hv1 hv2 hv3 hv4 hv5 H34 c1 c4 HL HP0 HA0
  have c0 := HA2.out.c0
  go_upto_region 27 with fail
  have k0 := HS2.out.s1
  have k1 := HS2.out.t1
  obtain ⟨r, h16, h37⟩ := left_any HS2.out.D1
  have H16 : Hid (∀ m, Calls Tryd.prog 16 #[optg d1] (w2.drewN m) fun e w' => e = .returned (.int .i64 r) ∧ ∃ m', w' = (w2.drewN m).drewN m') := h16
  have H37 : Hid (∀ m, Calls Tryd.prog 37 #[opth d1] (w2.drewN m) fun e w' => e = .returned (.int .i64 r) ∧ ∃ m', w' = (w2.drewN m).drewN m') := h37
  clear h16 h37
  go_quiet (first | (go_at_call 16; refine Calls.quiet_of (H16.out _)) | (go_at_call 37; refine Calls.quiet_of (H37.out _)))
  have HF : Hid (Below w.heap.size w (w2.drewN nq)) := HB2.out.trans ((below_drewN w2 nq).mono HB2.out.size)
  generalize w2.drewN nq = w3 at HF ⊢
  clear c0 k0 k1 H16 H37 HA2 HS2 HB2
  go_wp2
  go_ret
  exact ⟨rfl, HF.out⟩
set_option maxHeartbeats 3200000 in
set_option maxRecDepth 100000 in
theorem plays_left2 (B m : Nat) (d0 d1 : Option Desc) (ov wv : Value) (nn : Nat) (os ws : List Value) (left : Int) (at_ n : Int) (ea xa : Option Addr) (en ec xn xc : Nat) (xs : List Value) (yss : List (List Int)) (w : World) (hs : Hid (PS w B m d0 d1 ov wv nn os ws left)) (hP : Hid (PV w (.slice xa xn xc) xs yss)) (hxn : Hid (xs.length = xn)) (hl : Hid (yss.flatten.length ≤ 262144)) (hn : xn ≤ 1048576) (hat : at_.tmod 2 = -1) :
    Calls Tryd.prog 20 #[.pointer (some ⟨m, 0, none⟩), .agg #[.int .i64 3, .int .i64 at_, .int .i64 n, .slice ea en ec, .slice xa xn xc]] w fun e w' => Hid (LeftP w w' e) := by
  go_enter Tryd.func20, Tryd.ntmps20
  go_upto_region 1 with fail
  have HA0 : Hid (OAt (w.alloc (.cells #[.int .i64 3, .int .i64 at_, .int .i64 n, .slice ea en ec, .slice xa xn xc] 39)) w.heap.size 3 at_ n (.slice ea en ec) (.slice xa xn xc) ∧ Below w.heap.size w (w.alloc (.cells #[.int .i64 3, .int .i64 at_, .int .i64 n, .slice ea en ec, .slice xa xn xc] 39)) ∧ (w.alloc (.cells #[.int .i64 3, .int .i64 at_, .int .i64 n, .slice ea en ec, .slice xa xn xc] 39)).heap.size = w.heap.size + 1) := ⟨OAt.new _ _ _ _ _ _ _, below_alloc1 _ _, size_alloc1 _ _⟩
  generalize w.alloc (.cells #[.int .i64 3, .int .i64 at_, .int .i64 n, .slice ea en ec, .slice xa xn xc] 39) = w0 at HA0 ⊢
  have c1 := HA0.out.1.c1
  have HP0 : Hid (PV w0 (.slice xa xn xc) xs yss) := hP.out.kept fun q hq => HA0.out.2.1.block q hq
  have c4 := HA0.out.1.c4
  have HL : Hid (Calls Tryd.prog 33 #[.slice xa xn xc] w0 fun e w' => e = .returned (.bool false) ∧ w' = w0) := long_ok xa xn xc xs yss w0 HP0 hxn hl (by omega)
  go_upto_region 6 with (go_at_call 33; refine HL.out.mono ?_; rintro e1 w1 ⟨rfl, hw1⟩; obtain rfl := hw1.symm)
  have H34 : Hid (Calls Tryd.prog 34 #[.slice xa xn xc] w0 fun e w' => Hid (∃ v', e = .returned v' ∧ ∃ vs, vs.length = xn ∧ w'.ownsRow w0.heap.size 22 1 v' xn vs ∧ Lent w0.heap.size w' vs yss ∧ Inc vs ∧ Below w0.heap.size w0 w')) := lent_ok xa xn xc xs yss w0 HP0 hxn (by show _ ≤ _; have := hl.out; omega) hn
  go_upto_region 7 with (go_at_call 34; refine H34.out.mono ?_; intro e2 w2 hh; obtain ⟨v', rfl, vs, hv1, hv2, hv3, hv4, hv5⟩ := hh.out)
  have HB2 : Hid (Below w.heap.size w w2) := HA0.out.2.1.trans (hv5.mono HA0.out.2.1.size)
  have HA2 : Hid (OAt w2 w.heap.size 3 at_ n (.slice ea en ec) (.slice xa xn xc)) := HA0.out.1.below hv5
  have HS2 : Hid (PS w2 B m d0 d1 ov wv nn os ws left) := hs.out.below HB2.out
  clear hh hv1 hv2 hv3 hv4 hv5 H34 c1 c4 HL HP0 HA0
  have c0 := HA2.out.c0
  go_upto_region 27 with fail
  have k0 := HS2.out.s1
  have k1 := HS2.out.t1
  obtain ⟨r, h16, h37⟩ := left_any HS2.out.D1
  have H16 : Hid (∀ m, Calls Tryd.prog 16 #[optg d1] (w2.drewN m) fun e w' => e = .returned (.int .i64 r) ∧ ∃ m', w' = (w2.drewN m).drewN m') := h16
  have H37 : Hid (∀ m, Calls Tryd.prog 37 #[opth d1] (w2.drewN m) fun e w' => e = .returned (.int .i64 r) ∧ ∃ m', w' = (w2.drewN m).drewN m') := h37
  clear h16 h37
  go_quiet (first | (go_at_call 16; refine Calls.quiet_of (H16.out _)) | (go_at_call 37; refine Calls.quiet_of (H37.out _)))
  have HF : Hid (Below w.heap.size w (w2.drewN nq)) := HB2.out.trans ((below_drewN w2 nq).mono HB2.out.size)
  generalize w2.drewN nq = w3 at HF ⊢
  clear c0 k0 k1 H16 H37 HA2 HS2 HB2
  go_wp2
  go_ret
  exact ⟨rfl, HF.out⟩
set_option maxHeartbeats 3200000 in
set_option maxRecDepth 100000 in
theorem plays_other0 (B m : Nat) (d0 d1 : Option Desc) (ov wv : Value) (nn : Nat) (os ws : List Value) (left : Int) (at_ n : Int) (ea xa : Option Addr) (en ec xn xc : Nat) (xs : List Value) (yss : List (List Int)) (w : World) (hs : Hid (PS w B m d0 d1 ov wv nn os ws left)) (hP : Hid (PV w (.slice xa xn xc) xs yss)) (hxn : Hid (xs.length = xn)) (hl : Hid (yss.flatten.length ≤ 262144)) (hn : xn ≤ 1048576) (hat : at_.tmod 2 = 0) (kd : Int) (q1 : kd ≠ 1) (q2 : kd ≠ 2) (q3 : kd ≠ 3) (q4 : kd ≠ 4) :
    Calls Tryd.prog 20 #[.pointer (some ⟨m, 0, none⟩), .agg #[.int .i64 kd, .int .i64 at_, .int .i64 n, .slice ea en ec, .slice xa xn xc]] w fun e w' => Hid (LeftP w w' e) := by
  go_enter Tryd.func20, Tryd.ntmps20
  go_upto_region 1 with fail
  have HA0 : Hid (OAt (w.alloc (.cells #[.int .i64 kd, .int .i64 at_, .int .i64 n, .slice ea en ec, .slice xa xn xc] 39)) w.heap.size kd at_ n (.slice ea en ec) (.slice xa xn xc) ∧ Below w.heap.size w (w.alloc (.cells #[.int .i64 kd, .int .i64 at_, .int .i64 n, .slice ea en ec, .slice xa xn xc] 39)) ∧ (w.alloc (.cells #[.int .i64 kd, .int .i64 at_, .int .i64 n, .slice ea en ec, .slice xa xn xc] 39)).heap.size = w.heap.size + 1) := ⟨OAt.new _ _ _ _ _ _ _, below_alloc1 _ _, size_alloc1 _ _⟩
  generalize w.alloc (.cells #[.int .i64 kd, .int .i64 at_, .int .i64 n, .slice ea en ec, .slice xa xn xc] 39) = w0 at HA0 ⊢
  have c1 := HA0.out.1.c1
  have HP0 : Hid (PV w0 (.slice xa xn xc) xs yss) := hP.out.kept fun q hq => HA0.out.2.1.block q hq
  have c4 := HA0.out.1.c4
  have HL : Hid (Calls Tryd.prog 33 #[.slice xa xn xc] w0 fun e w' => e = .returned (.bool false) ∧ w' = w0) := long_ok xa xn xc xs yss w0 HP0 hxn hl (by omega)
  go_upto_region 6 with (go_at_call 33; refine HL.out.mono ?_; rintro e1 w1 ⟨rfl, hw1⟩; obtain rfl := hw1.symm)
  have H34 : Hid (Calls Tryd.prog 34 #[.slice xa xn xc] w0 fun e w' => Hid (∃ v', e = .returned v' ∧ ∃ vs, vs.length = xn ∧ w'.ownsRow w0.heap.size 22 1 v' xn vs ∧ Lent w0.heap.size w' vs yss ∧ Inc vs ∧ Below w0.heap.size w0 w')) := lent_ok xa xn xc xs yss w0 HP0 hxn (by show _ ≤ _; have := hl.out; omega) hn
  go_upto_region 7 with (go_at_call 34; refine H34.out.mono ?_; intro e2 w2 hh; obtain ⟨v', rfl, vs, hv1, hv2, hv3, hv4, hv5⟩ := hh.out)
  have HB2 : Hid (Below w.heap.size w w2) := HA0.out.2.1.trans (hv5.mono HA0.out.2.1.size)
  have HA2 : Hid (OAt w2 w.heap.size kd at_ n (.slice ea en ec) (.slice xa xn xc)) := HA0.out.1.below hv5
  have HS2 : Hid (PS w2 B m d0 d1 ov wv nn os ws left) := hs.out.below HB2.out
  clear hh hv1 hv2 hv3 hv4 hv5 H34 c1 c4 HL HP0 HA0
  have c0 := HA2.out.c0
  have b1 : (kd == 1) = false := by simpa using q1
  have b2 : (kd == 2) = false := by simpa using q2
  have b3 : (kd == 3) = false := by simpa using q3
  have b4 : (kd == 4) = false := by simpa using q4
  go_wp2
  go_ret
  exact ⟨rfl, HB2.out⟩
set_option maxHeartbeats 3200000 in
set_option maxRecDepth 100000 in
theorem plays_other1 (B m : Nat) (d0 d1 : Option Desc) (ov wv : Value) (nn : Nat) (os ws : List Value) (left : Int) (at_ n : Int) (ea xa : Option Addr) (en ec xn xc : Nat) (xs : List Value) (yss : List (List Int)) (w : World) (hs : Hid (PS w B m d0 d1 ov wv nn os ws left)) (hP : Hid (PV w (.slice xa xn xc) xs yss)) (hxn : Hid (xs.length = xn)) (hl : Hid (yss.flatten.length ≤ 262144)) (hn : xn ≤ 1048576) (hat : at_.tmod 2 = 1) (kd : Int) (q1 : kd ≠ 1) (q2 : kd ≠ 2) (q3 : kd ≠ 3) (q4 : kd ≠ 4) :
    Calls Tryd.prog 20 #[.pointer (some ⟨m, 0, none⟩), .agg #[.int .i64 kd, .int .i64 at_, .int .i64 n, .slice ea en ec, .slice xa xn xc]] w fun e w' => Hid (LeftP w w' e) := by
  go_enter Tryd.func20, Tryd.ntmps20
  go_upto_region 1 with fail
  have HA0 : Hid (OAt (w.alloc (.cells #[.int .i64 kd, .int .i64 at_, .int .i64 n, .slice ea en ec, .slice xa xn xc] 39)) w.heap.size kd at_ n (.slice ea en ec) (.slice xa xn xc) ∧ Below w.heap.size w (w.alloc (.cells #[.int .i64 kd, .int .i64 at_, .int .i64 n, .slice ea en ec, .slice xa xn xc] 39)) ∧ (w.alloc (.cells #[.int .i64 kd, .int .i64 at_, .int .i64 n, .slice ea en ec, .slice xa xn xc] 39)).heap.size = w.heap.size + 1) := ⟨OAt.new _ _ _ _ _ _ _, below_alloc1 _ _, size_alloc1 _ _⟩
  generalize w.alloc (.cells #[.int .i64 kd, .int .i64 at_, .int .i64 n, .slice ea en ec, .slice xa xn xc] 39) = w0 at HA0 ⊢
  have c1 := HA0.out.1.c1
  have HP0 : Hid (PV w0 (.slice xa xn xc) xs yss) := hP.out.kept fun q hq => HA0.out.2.1.block q hq
  have c4 := HA0.out.1.c4
  have HL : Hid (Calls Tryd.prog 33 #[.slice xa xn xc] w0 fun e w' => e = .returned (.bool false) ∧ w' = w0) := long_ok xa xn xc xs yss w0 HP0 hxn hl (by omega)
  go_upto_region 6 with (go_at_call 33; refine HL.out.mono ?_; rintro e1 w1 ⟨rfl, hw1⟩; obtain rfl := hw1.symm)
  have H34 : Hid (Calls Tryd.prog 34 #[.slice xa xn xc] w0 fun e w' => Hid (∃ v', e = .returned v' ∧ ∃ vs, vs.length = xn ∧ w'.ownsRow w0.heap.size 22 1 v' xn vs ∧ Lent w0.heap.size w' vs yss ∧ Inc vs ∧ Below w0.heap.size w0 w')) := lent_ok xa xn xc xs yss w0 HP0 hxn (by show _ ≤ _; have := hl.out; omega) hn
  go_upto_region 7 with (go_at_call 34; refine H34.out.mono ?_; intro e2 w2 hh; obtain ⟨v', rfl, vs, hv1, hv2, hv3, hv4, hv5⟩ := hh.out)
  have HB2 : Hid (Below w.heap.size w w2) := HA0.out.2.1.trans (hv5.mono HA0.out.2.1.size)
  have HA2 : Hid (OAt w2 w.heap.size kd at_ n (.slice ea en ec) (.slice xa xn xc)) := HA0.out.1.below hv5
  have HS2 : Hid (PS w2 B m d0 d1 ov wv nn os ws left) := hs.out.below HB2.out
  clear hh hv1 hv2 hv3 hv4 hv5 H34 c1 c4 HL HP0 HA0
  have c0 := HA2.out.c0
  have b1 : (kd == 1) = false := by simpa using q1
  have b2 : (kd == 2) = false := by simpa using q2
  have b3 : (kd == 3) = false := by simpa using q3
  have b4 : (kd == 4) = false := by simpa using q4
  go_wp2
  go_ret
  exact ⟨rfl, HB2.out⟩
set_option maxHeartbeats 3200000 in
set_option maxRecDepth 100000 in
theorem plays_other2 (B m : Nat) (d0 d1 : Option Desc) (ov wv : Value) (nn : Nat) (os ws : List Value) (left : Int) (at_ n : Int) (ea xa : Option Addr) (en ec xn xc : Nat) (xs : List Value) (yss : List (List Int)) (w : World) (hs : Hid (PS w B m d0 d1 ov wv nn os ws left)) (hP : Hid (PV w (.slice xa xn xc) xs yss)) (hxn : Hid (xs.length = xn)) (hl : Hid (yss.flatten.length ≤ 262144)) (hn : xn ≤ 1048576) (hat : at_.tmod 2 = -1) (kd : Int) (q1 : kd ≠ 1) (q2 : kd ≠ 2) (q3 : kd ≠ 3) (q4 : kd ≠ 4) :
    Calls Tryd.prog 20 #[.pointer (some ⟨m, 0, none⟩), .agg #[.int .i64 kd, .int .i64 at_, .int .i64 n, .slice ea en ec, .slice xa xn xc]] w fun e w' => Hid (LeftP w w' e) := by
  go_enter Tryd.func20, Tryd.ntmps20
  go_upto_region 1 with fail
  have HA0 : Hid (OAt (w.alloc (.cells #[.int .i64 kd, .int .i64 at_, .int .i64 n, .slice ea en ec, .slice xa xn xc] 39)) w.heap.size kd at_ n (.slice ea en ec) (.slice xa xn xc) ∧ Below w.heap.size w (w.alloc (.cells #[.int .i64 kd, .int .i64 at_, .int .i64 n, .slice ea en ec, .slice xa xn xc] 39)) ∧ (w.alloc (.cells #[.int .i64 kd, .int .i64 at_, .int .i64 n, .slice ea en ec, .slice xa xn xc] 39)).heap.size = w.heap.size + 1) := ⟨OAt.new _ _ _ _ _ _ _, below_alloc1 _ _, size_alloc1 _ _⟩
  generalize w.alloc (.cells #[.int .i64 kd, .int .i64 at_, .int .i64 n, .slice ea en ec, .slice xa xn xc] 39) = w0 at HA0 ⊢
  have c1 := HA0.out.1.c1
  have HP0 : Hid (PV w0 (.slice xa xn xc) xs yss) := hP.out.kept fun q hq => HA0.out.2.1.block q hq
  have c4 := HA0.out.1.c4
  have HL : Hid (Calls Tryd.prog 33 #[.slice xa xn xc] w0 fun e w' => e = .returned (.bool false) ∧ w' = w0) := long_ok xa xn xc xs yss w0 HP0 hxn hl (by omega)
  go_upto_region 6 with (go_at_call 33; refine HL.out.mono ?_; rintro e1 w1 ⟨rfl, hw1⟩; obtain rfl := hw1.symm)
  have H34 : Hid (Calls Tryd.prog 34 #[.slice xa xn xc] w0 fun e w' => Hid (∃ v', e = .returned v' ∧ ∃ vs, vs.length = xn ∧ w'.ownsRow w0.heap.size 22 1 v' xn vs ∧ Lent w0.heap.size w' vs yss ∧ Inc vs ∧ Below w0.heap.size w0 w')) := lent_ok xa xn xc xs yss w0 HP0 hxn (by show _ ≤ _; have := hl.out; omega) hn
  go_upto_region 7 with (go_at_call 34; refine H34.out.mono ?_; intro e2 w2 hh; obtain ⟨v', rfl, vs, hv1, hv2, hv3, hv4, hv5⟩ := hh.out)
  have HB2 : Hid (Below w.heap.size w w2) := HA0.out.2.1.trans (hv5.mono HA0.out.2.1.size)
  have HA2 : Hid (OAt w2 w.heap.size kd at_ n (.slice ea en ec) (.slice xa xn xc)) := HA0.out.1.below hv5
  have HS2 : Hid (PS w2 B m d0 d1 ov wv nn os ws left) := hs.out.below HB2.out
  clear hh hv1 hv2 hv3 hv4 hv5 H34 c1 c4 HL HP0 HA0
  have c0 := HA2.out.c0
  have b1 : (kd == 1) = false := by simpa using q1
  have b2 : (kd == 2) = false := by simpa using q2
  have b3 : (kd == 3) = false := by simpa using q3
  have b4 : (kd == 4) = false := by simpa using q4
  go_wp2
  go_ret
  exact ⟨rfl, HB2.out⟩
theorem tmod_two (a : Int) : a.tmod 2 = 0 ∨ a.tmod 2 = 1 ∨ a.tmod 2 = -1 := by
  have h1 := Int.tmod_lt_of_pos a (b := 2) (by omega)
  have h2 := Int.tmod_lt_of_pos (-a) (b := 2) (by omega)
  rw [Int.neg_tmod] at h2
  omega
/-- A step of the kind Left. -/
theorem plays_left (B m : Nat) (d0 d1 : Option Desc) (ov wv : Value) (nn : Nat) (os ws : List Value) (left : Int) (at_ n : Int) (ea xa : Option Addr) (en ec xn xc : Nat) (xs : List Value) (yss : List (List Int)) (w : World) (hs : Hid (PS w B m d0 d1 ov wv nn os ws left)) (hP : Hid (PV w (.slice xa xn xc) xs yss)) (hxn : Hid (xs.length = xn)) (hl : Hid (yss.flatten.length ≤ 262144)) (hn : xn ≤ 1048576) : Calls Tryd.prog 20 #[.pointer (some ⟨m, 0, none⟩), .agg #[.int .i64 3, .int .i64 at_, .int .i64 n, .slice ea en ec, .slice xa xn xc]] w fun e w' => Hid (LeftP w w' e) := by
  rcases tmod_two at_ with h | h | h
  · exact plays_left0 B m d0 d1 ov wv nn os ws left at_ n ea xa en ec xn xc xs yss w hs hP hxn hl hn h
  · exact plays_left1 B m d0 d1 ov wv nn os ws left at_ n ea xa en ec xn xc xs yss w hs hP hxn hl hn h
  · exact plays_left2 B m d0 d1 ov wv nn os ws left at_ n ea xa en ec xn xc xs yss w hs hP hxn hl hn h
/-- A step of no kind. -/
theorem plays_other (B m : Nat) (d0 d1 : Option Desc) (ov wv : Value) (nn : Nat) (os ws : List Value) (left : Int) (at_ n : Int) (ea xa : Option Addr) (en ec xn xc : Nat) (xs : List Value) (yss : List (List Int)) (w : World) (hs : Hid (PS w B m d0 d1 ov wv nn os ws left)) (hP : Hid (PV w (.slice xa xn xc) xs yss)) (hxn : Hid (xs.length = xn)) (hl : Hid (yss.flatten.length ≤ 262144)) (hn : xn ≤ 1048576) (kd : Int) (q1 : kd ≠ 1) (q2 : kd ≠ 2) (q3 : kd ≠ 3) (q4 : kd ≠ 4) : Calls Tryd.prog 20 #[.pointer (some ⟨m, 0, none⟩), .agg #[.int .i64 kd, .int .i64 at_, .int .i64 n, .slice ea en ec, .slice xa xn xc]] w fun e w' => Hid (LeftP w w' e) := by
  rcases tmod_two at_ with h | h | h
  · exact plays_other0 B m d0 d1 ov wv nn os ws left at_ n ea xa en ec xn xc xs yss w hs hP hxn hl hn h kd q1 q2 q3 q4
  · exact plays_other1 B m d0 d1 ov wv nn os ws left at_ n ea xa en ec xn xc xs yss w hs hP hxn hl hn h kd q1 q2 q3 q4
  · exact plays_other2 B m d0 d1 ov wv nn os ws left at_ n ea xa en ec xn xc xs yss w hs hP hxn hl hn h kd q1 q2 q3 q4
end Go.Proofs.YtkeklmkaleomkaaDoor
namespace Go.Proofs.YtkeklmkaleomkaaDoor
open Go.RowKit
set_option linter.unusedVariables false
set_option linter.unusedSimpArgs false
theorem sm_below {w u v : World} (h : Sm w u) (b : Below u.heap.size u v) : Below w.heap.size w v := by
  have e := h.heap
  exact ⟨b.os.trans h.os, b.tape.trans h.tape, b.output.trans h.output, by rw [← e]; exact b.size, fun q hq => by rw [b.block q (by rw [e]; exact hq), e]⟩
/-- A side's copy. -/
def cpd (d : Option Desc) (g h : Nat) (ka : Option Addr) (kc : Nat) (va : Option Addr) (vc : Nat) : Option Desc := d.map fun q => ⟨g, h, q.dg, q.K, q.V, q.L, q.c, ka, kc, va, vc⟩
def cpg (d : Option Desc) (g : Nat) : Value := .pointer (d.map fun _ => ⟨g, 0, none⟩)
theorem cpg_g (d : Option Desc) (g h : Nat) (ka : Option Addr) (kc : Nat) (va : Option Addr) (vc : Nat) : optg (cpd d g h ka kc va vc) = cpg d g := by cases d <;> rfl
theorem cpg_h (d : Option Desc) (g h : Nat) (ka : Option Addr) (kc : Nat) (va : Option Addr) (vc : Nat) : opth (cpd d g h ka kc va vc) = cpg d h := by cases d <;> rfl
theorem spcopy_any {w : World} {B : Nat} {d : Option Desc} (hD : ∀ d', d = some d' → DAt w B d') (u : World) (hu : u.heap = w.heap) : Calls Tryd.prog 11 #[optg d] u fun e w' => Hid (∃ g, e = .returned (cpg d g) ∧ u.heap.size ≤ g ∧ (∀ q, d = some q → SpAt w' g q.dg q.K q.V q.L q.c) ∧ Below u.heap.size u w') := by
  cases d with
  | none => exact (spcopy_nil u).mono fun _ _ ⟨h1, h2⟩ => ⟨u.heap.size, h1, Nat.le_refl _, fun q e => (by cases e), (by rw [h2]; exact Below.refl _ _)⟩
  | some q =>
    refine (spcopy q.g q.dg q.K q.V q.L q.c u ((hD q rfl).sp.block (by rw [hu]))).mono ?_
    rintro e w' ⟨g, rfl, h1, h2, h3⟩
    exact ⟨g, rfl, h1, fun q' e => by injection e with e; subst e; exact h2, h3⟩
theorem rcopy_any {w : World} {B : Nat} {d : Option Desc} (hD : ∀ d', d = some d' → DAt w B d') (u : World) (hu : u.heap = w.heap) : Calls Tryd.prog 38 #[opth d] u fun e w' => Hid (∃ h ka kc va vc, e = .returned (cpg d h) ∧ u.heap.size ≤ h ∧ (∀ q, d = some q → RSp w' h q.dg q.L q.c ka kc va vc (fL q.K (szOf q.dg)) (fL q.V (szOf q.dg)) ∧ New2 u ka va) ∧ Below u.heap.size u w') := by
  cases d with
  | none => exact (rcopy_nil u).mono fun _ _ ⟨h1, h2⟩ => ⟨u.heap.size, none, 0, none, 0, h1, Nat.le_refl _, fun q e => (by cases e), (by rw [h2]; exact Below.refl _ _)⟩
  | some q =>
    refine (rcopy_ok q.h q.dg q.L q.c q.ka q.va q.kc q.vc _ _ u (hD q rfl).kn ((hD q rfl).rs.blk (by rw [hu]) (fun _ _ _ => by rw [hu]) (fun _ _ _ => by rw [hu]))).mono ?_
    rintro e w' hh
    obtain ⟨g, ka, kc, va, vc, rfl, h1, h2, h3, h4⟩ := hh.out
    exact ⟨g, ka, kc, va, vc, rfl, h1, fun q' e => by injection e with e; subst e; exact ⟨h2, h3⟩, h4⟩
theorem PS.notm {w : World} {B m n : Nat} {d0 d1 : Option Desc} {ov wv : Value} {os ws : List Value} {left : Int} (s : PS w B m d0 d1 ov wv n os ws left) : ∀ b, b ∈ omb d0 ++ (omb d1 ++ (vblk ov ++ vblk wv)) → b ≠ m := by
  have h := s.nod
  rw [PMb, List.singleton_append, List.nodup_cons] at h
  intro b hb e
  subst e
  exact h.1 hb
/-- All but the struct's own block is as it was. -/
theorem PS.same {w v : World} {B m n : Nat} {d0 d1 : Option Desc} {ov wv : Value} {os ws : List Value} {left : Int} (s : PS w B m d0 d1 ov wv n os ws left) (t : Touch w v m 0 7) : Same w v (omb d0 ++ (omb d1 ++ (vblk ov ++ vblk wv))) ∧ Same w v (orb d0 ++ orb d1) :=
  ⟨fun b hb => t.block b (s.lt b (List.mem_append_right _ hb)).2 (s.notm b hb), fun b hb => t.block b (s.ro b hb).1 (fun e => (s.ro b hb).2.2 (List.mem_append_left _ (by rw [e]; exact List.mem_singleton.2 rfl)))⟩
theorem PS.sides {w v : World} {B m n : Nat} {d0 d1 : Option Desc} {ov wv : Value} {os ws : List Value} {left : Int} (s : PS w B m d0 d1 ov wv n os ws left) (t : Touch w v m 0 7) : (∀ d, d0 = some d → DAt v B d) ∧ (∀ d, d1 = some d → DAt v B d) := by
  obtain ⟨h1, h2⟩ := s.same t
  constructor
  · intro d e
    subst e
    exact (s.D0 d rfl).keep h1.left h2.left
  · intro d e
    subst e
    exact (s.D1 d rfl).keep h1.right.left h2.right
/-- A new side, number 0. -/
theorem PS.new0 {w v : World} {B m n : Nat} {d0 d1 d' : Option Desc} {ov wv : Value} {os ws : List Value} {left : Int} (s : PS w B m d0 d1 ov wv n os ws left) (t : Touch w v m 0 7) (c0 : v.cell? ⟨m, 0, none⟩ = some (optg d')) (c1 : v.cell? ⟨m, 1, none⟩ = some (optg d1)) (c2 : v.cell? ⟨m, 2, none⟩ = some (opth d')) (c3 : v.cell? ⟨m, 3, none⟩ = some (opth d1)) (c4 : v.cell? ⟨m, 4, none⟩ = some ov) (c5 : v.cell? ⟨m, 5, none⟩ = some wv) (c6 : v.cell? ⟨m, 6, none⟩ = some (.int .i64 left)) (th : v.there m 0 7) (hD : ∀ d, d' = some d → DAt v B d) (hn : ∀ b, b ∈ omb d' ++ orb d' → w.heap.size ≤ b ∧ b < v.heap.size) (hd : (omb d').Nodup) (ha : ∀ b, b ∈ orb d' → b ∉ omb d') : PS v B m d' d1 ov wv n os ws left := by
  obtain ⟨h1, h2⟩ := s.same t
  have old : ∀ b, b ∈ omb d1 ++ (vblk ov ++ vblk wv) → b < w.heap.size := fun b hb => (s.lt b (List.mem_append_right _ (List.mem_append_right _ hb))).2
  have mlt : m < w.heap.size := lt_of_cell s.s0
  have hB : B ≤ w.heap.size := by have := s.mB; omega
  have hs := s.nod
  rw [PMb, List.singleton_append, List.nodup_cons, List.nodup_append] at hs
  refine ⟨c0, c1, c2, c3, c4, c5, c6, th, hD, (s.sides t).2, owns_same s.out h1.right.right.left, owns_same s.was h1.right.right.right, s.mB, ?_, ?_, s.l0, s.l1⟩
  · rw [PMb, List.singleton_append, List.nodup_cons, List.nodup_append]
    refine ⟨fun hb => ?_, hd, hs.2.2.1, fun a hx b hy e => ?_⟩
    · rcases List.mem_append.1 hb with hb | hb
      · have := (hn m (List.mem_append_left _ hb)).1; omega
      · exact hs.1 (List.mem_append_right _ hb)
    · have := (hn a (List.mem_append_left _ hx)).1
      have := old b hy
      omega
  · intro b hb
    rcases List.mem_append.1 hb with hb | hb
    · have q := hn b (List.mem_append_right _ hb)
      refine ⟨q.2, Nat.le_trans hB q.1, fun hx => ?_⟩
      simp only [PMb, List.mem_append, List.mem_singleton] at hx
      rcases hx with rfl | hx | hx
      · omega
      · exact ha b hb hx
      · have := old b (by simpa only [List.mem_append] using hx); omega
    · have q := s.ro b (List.mem_append_right _ hb)
      refine ⟨Nat.lt_of_lt_of_le q.1 t.size, q.2.1, fun hx => ?_⟩
      simp only [PMb, List.mem_append, List.mem_singleton] at hx q
      rcases hx with rfl | hx | hx
      · exact q.2.2 (.inl rfl)
      · have := (hn b (List.mem_append_left _ hx)).1; omega
      · exact q.2.2 (.inr (.inr hx))
end Go.Proofs.YtkeklmkaleomkaaDoor
namespace Go.Proofs.YtkeklmkaleomkaaDoor
open Go.RowKit
set_option linter.unusedVariables false
set_option linter.unusedSimpArgs false
theorem view_ltP {w : World} {b o n c : Nat} {zs : List Int} (h : View w (.slice (some ⟨b, o, none⟩) n c) zs) (h0 : 0 < zs.length) : b < w.heap.size := by
  have q := view_news h 0 _ (cellU8_at h0)
  exact lt_of_cell q
theorem RSp.rb {w : World} {g : Nat} {dg L c : Int} {ka va : Option Addr} {kc vc : Nat} {KL VL : List Int} (s : RSp w g dg L c ka kc va vc KL VL) (k : Known dg) : ∀ b, b ∈ ablk ka ++ ablk va → b < w.heap.size ∧ b ≠ g ∧ ((∃ off, ka = some ⟨b, off, none⟩) ∨ (∃ off, va = some ⟨b, off, none⟩)) := by
  have hz := szOf_pos k
  obtain ⟨b1, o1, rfl⟩ := view_some s.vK (by rw [s.lK]; omega)
  obtain ⟨b2, o2, rfl⟩ := view_some s.vV (by rw [s.lV]; omega)
  intro b hb
  simp only [ablk, List.mem_append, List.mem_singleton] at hb
  rcases hb with rfl | rfl
  · exact ⟨view_ltP s.vK (by rw [s.lK]; omega), s.aK _ _ rfl, .inl ⟨o1, rfl⟩⟩
  · exact ⟨view_ltP s.vV (by rw [s.lV]; omega), s.aV _ _ rfl, .inr ⟨o2, rfl⟩⟩
/-- What a copy leaves. -/
def CopyP0 (w w' : World) (e : Ending) (B m : Nat) (d1 : Option Desc) (ov wv : Value) (n : Nat) (os ws : List Value) (left : Int) : Prop := e = .returned (.bool true) ∧ ∃ d', PS w' B m d' d1 ov wv n os ws left ∧ Touch w w' m 0 7 ∧ ∀ b, b ∈ omb d' ++ orb d' → w.heap.size ≤ b
theorem copied0 {w2 w3 w5 : World} {B m n : Nat} {d0 d1 : Option Desc} {ov wv : Value} {os ws : List Value} {left : Int} {g3 h5 : Nat} {ka va : Option Addr} {kc vc : Nat} (s : PS w2 B m d0 d1 ov wv n os ws left) (b3 : Below w2.heap.size w2 w3) (hg : w2.heap.size ≤ g3) (h3 : ∀ q, d1 = some q → SpAt w3 g3 q.dg q.K q.V q.L q.c) (hh : w3.heap.size ≤ h5) (h5' : ∀ q, d1 = some q → RSp w5 h5 q.dg q.L q.c ka kc va vc (fL q.K (szOf q.dg)) (fL q.V (szOf q.dg)) ∧ New2 w3 ka va) (b5 : Below w3.heap.size (w3.setCell ⟨m, 0, none⟩ (cpg d1 g3)) w5) :
    ∃ d', PS (w5.setCell ⟨m, 2, none⟩ (cpg d1 h5)) B m d' d1 ov wv n os ws left ∧ Touch w2 (w5.setCell ⟨m, 2, none⟩ (cpg d1 h5)) m 0 7 ∧ ∀ b, b ∈ omb d' ++ orb d' → w2.heap.size ≤ b := by
  have mlt : m < w2.heap.size := lt_of_cell s.s0
  have hB : B ≤ w2.heap.size := by have := s.mB; omega
  have sz3 := b3.size
  have s3 := s.below b3
  have z4 : (w3.setCell ⟨m, 0, none⟩ (cpg d1 g3)).heap.size = w3.heap.size := size_setCells m [cpg d1 g3] 0 w3
  have t4 : Touch w3 (w3.setCell ⟨m, 0, none⟩ (cpg d1 g3)) m 0 7 := (Touch.refl w3 m 0 7).setCell 0 _ (by omega) (by omega)
  have t5 : Touch w3 w5 m 0 7 := t4.below (by rw [z4]; exact b5) (by omega)
  have t6 : Touch w3 (w5.setCell ⟨m, 2, none⟩ (cpg d1 h5)) m 0 7 := t5.setCell 2 _ (by omega) (by omega)
  have t2 : Touch w2 (w5.setCell ⟨m, 2, none⟩ (cpg d1 h5)) m 0 7 := (((Touch.refl w2 m 0 7).below b3 mlt)).trans t6
  have z6 : (w5.setCell ⟨m, 2, none⟩ (cpg d1 h5)).heap.size = w5.heap.size := size_setCells m [cpg d1 h5] 2 w5
  have c5 : ∀ j, w5.cell? ⟨m, j, none⟩ = (w3.setCell ⟨m, 0, none⟩ (cpg d1 g3)).cell? ⟨m, j, none⟩ := fun j => World.cell?_of_block (a := ⟨m, j, none⟩) (b5.block m (by omega))
  have o4 : ∀ j, j ≠ 0 → w5.cell? ⟨m, j, none⟩ = w3.cell? ⟨m, j, none⟩ := fun j hj => by rw [c5]; exact World.cell?_setCell_other _ _ _ _ (by intro q; injection q with _ q2; omega)
  have o6 : ∀ j, j ≠ 2 → (w5.setCell ⟨m, 2, none⟩ (cpg d1 h5)).cell? ⟨m, j, none⟩ = w5.cell? ⟨m, j, none⟩ := fun j hj => World.cell?_setCell_other _ _ _ _ (by intro q; injection q with _ q2; omega)
  have e0 : w5.cell? ⟨m, 0, none⟩ = some (cpg d1 g3) := by rw [c5]; exact World.cell?_setCell_same' _ _ _ (by rw [s3.s0]; rfl)
  have e2 : (w5.setCell ⟨m, 2, none⟩ (cpg d1 h5)).cell? ⟨m, 2, none⟩ = some (cpg d1 h5) := World.cell?_setCell_same' _ _ _ (by rw [o4 2 (by omega), s3.t0]; rfl)
  have hD : ∀ d, cpd d1 g3 h5 ka kc va vc = some d → DAt (w5.setCell ⟨m, 2, none⟩ (cpg d1 h5)) B d := by
    intro d e
    cases d1 with
    | none => cases e
    | some q =>
      have e' : (⟨g3, h5, q.dg, q.K, q.V, q.L, q.c, ka, kc, va, vc⟩ : Desc) = d := by injection e
      subst e'
      have a := h3 q rfl
      have r := h5' q rfl
      have kk := s3.D1 q rfl
      have t56 : Touch w5 (w5.setCell ⟨m, 2, none⟩ (cpg (some q) h5)) m 0 7 := (Touch.refl w5 m 0 7).setCell 2 _ (by omega) (by omega)
      refine ⟨a.block (t6.block g3 a.lt (by omega)), r.1.blk (t56.block h5 r.1.lt (by omega)) (fun b off eb => ?_) (fun b off eb => ?_), kk.kn, kk.c0, kk.cL, kk.lL, Nat.le_trans hB hg, by show B ≤ h5; omega⟩
      · have q1 := r.1.rb kk.kn b (List.mem_append_left _ (by rw [eb]; exact List.mem_singleton.2 rfl))
        exact t56.block b q1.1 (by have := r.2.1 b off eb; omega)
      · have q1 := r.1.rb kk.kn b (List.mem_append_right _ (by rw [eb]; exact List.mem_singleton.2 rfl))
        exact t56.block b q1.1 (by have := r.2.2 b off eb; omega)
  have hn : ∀ b, b ∈ omb (cpd d1 g3 h5 ka kc va vc) ++ orb (cpd d1 g3 h5 ka kc va vc) → (w2.heap.size ≤ b ∧ b < (w5.setCell ⟨m, 2, none⟩ (cpg d1 h5)).heap.size) ∧ (b ∈ orb (cpd d1 g3 h5 ka kc va vc) → b ∉ omb (cpd d1 g3 h5 ka kc va vc)) := by
    intro b hb
    cases d1 with
    | none => cases hb
    | some q =>
      have a := (h3 q rfl).lt
      have r := h5' q rfl
      have kk := s3.D1 q rfl
      have z5 := t5.size
      have rr : b ∈ ablk ka ++ ablk va → w3.heap.size ≤ b ∧ b < w5.heap.size ∧ b ≠ h5 := fun hx => by
        obtain ⟨q1, q2, q3⟩ := r.1.rb kk.kn b hx
        refine ⟨?_, q1, q2⟩
        rcases q3 with ⟨off, e⟩ | ⟨off, e⟩
        · exact r.2.1 b off e
        · exact r.2.2 b off e
      refine ⟨?_, fun hx hy => ?_⟩
      · rw [z6]
        rcases List.mem_append.1 hb with hb | hb
        · simp only [cpd, omb, Option.map, List.mem_cons, List.not_mem_nil, or_false] at hb
          rcases hb with rfl | rfl
          · omega
          · have := r.1.lt; omega
        · have := rr hb; omega
      · have := rr hx
        simp only [cpd, omb, Option.map, List.mem_cons, List.not_mem_nil, or_false] at hy
        rcases hy with rfl | rfl <;> omega
  refine ⟨cpd d1 g3 h5 ka kc va vc, s.new0 t2 (by rw [o6 0 (by omega), e0, cpg_g]) (by rw [o6 1 (by omega), o4 1 (by omega)]; exact s3.s1) (by rw [e2, cpg_h]) (by rw [o6 3 (by omega), o4 3 (by omega)]; exact s3.t1) (by rw [o6 4 (by omega), o4 4 (by omega)]; exact s3.co) (by rw [o6 5 (by omega), o4 5 (by omega)]; exact s3.cw) (by rw [o6 6 (by omega), o4 6 (by omega)]; exact s3.cl) (t6.there 0 7 s3.there) hD (fun b hb => (hn b hb).1) ?_ (fun b hb => (hn b (List.mem_append_right _ hb)).2 hb), t2, fun b hb => (hn b hb).1.1⟩
  cases d1 with
  | none => exact List.nodup_nil
  | some q =>
    have a := (h3 q rfl).lt
    show [g3, h5].Nodup
    simp
    omega
end Go.Proofs.YtkeklmkaleomkaaDoor
namespace Go.Proofs.YtkeklmkaleomkaaDoor
open Go.RowKit
set_option linter.unusedVariables false
set_option linter.unusedSimpArgs false
/-- Only blocks of a list, and new ones, changed. -/
structure Fr (w v : World) (l : List Nat) : Prop where
  os : v.os = w.os
  tape : v.tape = w.tape
  output : v.output = w.output
  size : w.heap.size ≤ v.heap.size
  block : ∀ b, b < w.heap.size → b ∉ l → v.heap[b]? = w.heap[b]?
theorem Fr.refl (w : World) (l : List Nat) : Fr w w l := ⟨rfl, rfl, rfl, Nat.le_refl _, fun _ _ _ => rfl⟩
theorem Fr.mono {w v : World} {l l' : List Nat} (h : Fr w v l) (hl : ∀ b, b ∈ l → b ∈ l') : Fr w v l' := ⟨h.os, h.tape, h.output, h.size, fun b hb hn => h.block b hb (fun e => hn (hl b e))⟩
/-- What is changed later was in the list, or was new. -/
theorem Fr.late {w u v : World} {l l' : List Nat} (h : Fr w u l) (k : Fr u v l') (hn : ∀ b, b ∈ l' → b ∈ l ∨ w.heap.size ≤ b) : Fr w v l :=
  ⟨k.os.trans h.os, k.tape.trans h.tape, k.output.trans h.output, Nat.le_trans h.size k.size, fun b hb hx => (k.block b (Nat.lt_of_lt_of_le hb h.size) (fun e => by rcases hn b e with q | q; exact hx q; omega)).trans (h.block b hb hx)⟩
theorem Fr.trans {w u v : World} {l : List Nat} (h : Fr w u l) (k : Fr u v l) : Fr w v l := h.late k fun b hb => .inl hb
theorem Fr.then {w u v : World} {l l' : List Nat} (h : Fr w u l) (k : Fr u v l') : Fr w v (l ++ l') := (h.mono fun b hb => List.mem_append_left _ hb).trans (k.mono fun b hb => List.mem_append_right _ hb)
theorem below_fr {w v : World} (h : Below w.heap.size w v) (l : List Nat) : Fr w v l := ⟨h.os, h.tape, h.output, h.size, fun b hb _ => h.block b hb⟩
theorem touch_fr {w v : World} {g o n : Nat} (h : Touch w v g o n) : Fr w v [g] := ⟨h.os, h.tape, h.output, h.size, fun b hb hn => h.block b hb (fun e => hn (List.mem_singleton.2 e))⟩
theorem grown_fr {w v : World} {x : Option Nat} (h : w.grownBy v x) : Fr w v x.toList := ⟨h.os, h.tape, h.output, h.size, fun b hb hn => h.block b hb (fun e => hn (by rw [← e]; exact List.mem_singleton.2 rfl))⟩
theorem kw_fr {w v : World} {vs : List Value} (h : Kw w v vs) (l : List Nat) (hl : ∀ (i : Nat) (x : Value), vs[i]? = some x → ∀ q, Value.ownBlock x = some q → q ∈ l) : Fr w v l := ⟨h.os, h.tape, h.output, h.size, fun b hb hn => h.block b hb (fun i x hx e => hn (hl i x hx b e))⟩
theorem Fr.toBelow {w v : World} {l : List Nat} (h : Fr w v l) {B : Nat} (hl : ∀ b, b ∈ l → B ≤ b) (hB : B ≤ w.heap.size) : Below B w v := ⟨h.os, h.tape, h.output, h.size, fun q hq => h.block q (by omega) (fun e => by have := hl q e; omega)⟩
theorem sm_fr {w v : World} (h : Sm w v) (l : List Nat) : Fr w v l := ⟨h.os, h.tape, h.output, by rw [h.heap]; exact Nat.le_refl _, fun b _ _ => by rw [h.heap]⟩
/-- What the program drew. -/
def OV (w : World) (B : Nat) (oa : Option Addr) (on : Nat) (zs : List Int) : Prop := (oa = none ∧ on = 0 ∧ zs = []) ∨ ∃ b F, oa = some ⟨b, 0, none⟩ ∧ B ≤ b ∧ on ≤ 65536 ∧ OutAt w b on F ∧ zs = fL F on
theorem OutAt.blk {w v : World} {b n : Nat} {F : Nat → Int} (h : OutAt w b n F) (hb : v.heap[b]? = w.heap[b]?) (hs : w.heap.size ≤ v.heap.size) : OutAt v b n F :=
  ⟨fun i hi => by rw [World.cell?_of_block (a := ⟨b, i, none⟩) hb]; exact h.cells i hi, fun j hj => by rw [World.cell?_of_block (a := ⟨b, 0 + j, none⟩) hb, World.frozen?_of_block (a := ⟨b, 0 + j, none⟩) hb]; exact h.there j hj, Nat.lt_of_lt_of_le h.lt hs⟩
theorem OV.view {w : World} {B : Nat} {oa : Option Addr} {on : Nat} {zs : List Int} (h : OV w B oa on zs) : View w (.slice oa on on) zs := by
  rcases h with ⟨rfl, rfl, rfl⟩ | ⟨b, F, rfl, _, hn, h, rfl⟩
  · exact ⟨none, 0, rfl, Nat.le_refl _, Nat.zero_le _, fun _ => rfl, .inl rfl⟩
  · exact h.view hn
theorem OV.keep {w v : World} {B : Nat} {oa : Option Addr} {on : Nat} {zs : List Int} (h : OV w B oa on zs) (hb : ∀ b, b ∈ vblk (.slice oa on on) → v.heap[b]? = w.heap[b]?) (hs : w.heap.size ≤ v.heap.size) : OV v B oa on zs := by
  rcases h with h | ⟨b, F, rfl, h1, h2, h3, h4⟩
  · exact .inl h
  · exact .inr ⟨b, F, rfl, h1, h2, h3.blk (hb b (by simp [vblk, Value.ownBlock])) hs, h4⟩
theorem OV.base {w : World} {B B' : Nat} {oa : Option Addr} {on : Nat} {zs : List Int} (h : OV w B oa on zs) (hB : B' ≤ B) : OV w B' oa on zs := by
  rcases h with h | ⟨b, F, h0, h1, h2⟩
  · exact .inl h
  · exact .inr ⟨b, F, h0, Nat.le_trans hB h1, h2⟩
theorem OV.blks {w : World} {B : Nat} {oa : Option Addr} {on : Nat} {zs : List Int} (h : OV w B oa on zs) : ∀ b, b ∈ vblk (.slice oa on on) → B ≤ b ∧ b < w.heap.size := by
  rcases h with ⟨rfl, rfl, rfl⟩ | ⟨b, F, rfl, h1, h2, h3, h4⟩
  · intro b hb; simp [vblk, Value.ownBlock] at hb
  · intro b' hb
    simp [vblk, Value.ownBlock] at hb
    subst hb
    exact ⟨h1, h3.lt⟩
theorem view_keepP {w v : World} {y : Value} {zs : List Int} (h : View w y zs) (hb : zs ≠ [] → ∀ b, b ∈ vblk y → v.heap[b]? = w.heap[b]?) : View v y zs := by
  obtain ⟨a, c, e, h1, h2, h3, h4⟩ := h
  refine ⟨a, c, e, h1, h2, h3, ?_⟩
  rcases h4 with h4 | ⟨b, off, rfl, h5⟩
  · exact .inl h4
  · by_cases h0 : zs = []
    · exact .inl h0
    · refine .inr ⟨b, off, rfl, fun i hi => ?_⟩
      rw [World.cell?_of_block (a := ⟨b, off + i, none⟩) (hb h0 b (by rw [e]; simp [vblk, Value.ownBlock]))]
      exact h5 i hi
theorem view_blks {w : World} {y : Value} {zs : List Int} (h : View w y zs) (h0 : zs ≠ []) : ∀ b, b ∈ vblk y → b < w.heap.size ∧ ∃ off l c, y = .slice (some ⟨b, off, none⟩) l c := by
  obtain ⟨a, c, rfl, h1, h2, h3, h4⟩ := h
  rcases h4 with h4 | ⟨b, off, rfl, h5⟩
  · exact absurd h4 h0
  · intro b' hb
    simp [vblk, Value.ownBlock] at hb
    subst hb
    have : 0 < zs.length := List.length_pos_iff.2 h0
    exact ⟨lt_of_cell (h5 0 this), off, _, _, rfl⟩
/-- One thing that was drawn by both. -/
structure DrI (w : World) (B : Nat) (M R : List Nat) (t : Value × Value × List Int) : Prop where
  ov : ∃ oa on, t.1 = .slice oa on on ∧ OV w B oa on t.2.2
  vw : View w t.2.1 t.2.2
  om : ∀ b, b ∈ vblk t.1 → b ∉ M ∧ b ∉ R
  wm : t.2.2 ≠ [] → ∀ b, b ∈ vblk t.2.1 → B ≤ b ∧ b ∉ M
theorem DrI.ob {w : World} {B : Nat} {M R : List Nat} {t : Value × Value × List Int} (h : DrI w B M R t) : ∀ b, b ∈ vblk t.1 → B ≤ b ∧ b < w.heap.size := by
  obtain ⟨oa, on, e, ho⟩ := h.ov
  rw [e]
  exact ho.blks
theorem DrI.fr {w v : World} {B : Nat} {M R M' R' l : List Nat} {t : Value × Value × List Int} (h : DrI w B M R t) (fr : Fr w v l) (h1 : ∀ b, b ∈ vblk t.1 → b ∉ l) (h2 : t.2.2 ≠ [] → ∀ b, b ∈ vblk t.2.1 → b ∉ l) (hM : ∀ b, b ∈ M' → b ∈ M ∨ w.heap.size ≤ b) (hR : ∀ b, b ∈ R' → b ∈ R ∨ w.heap.size ≤ b) : DrI v B M' R' t := by
  have ob := h.ob
  obtain ⟨oa, on, e, ho⟩ := h.ov
  refine ⟨⟨oa, on, e, ho.keep (fun b hb => fr.block b (ho.blks b hb).2 (h1 b (by rw [e]; exact hb))) fr.size⟩, view_keepP h.vw (fun h0 b hb => fr.block b (view_blks h.vw h0 b hb).1 (h2 h0 b hb)), fun b hb => ⟨fun q => ?_, fun q => ?_⟩, fun h0 b hb => ⟨(h.wm h0 b hb).1, fun q => ?_⟩⟩
  · rcases hM b q with q | q
    · exact (h.om b hb).1 q
    · have := (ob b hb).2; omega
  · rcases hR b q with q | q
    · exact (h.om b hb).2 q
    · have := (ob b hb).2; omega
  · rcases hM b q with q | q
    · exact (h.wm h0 b hb).2 q
    · have := (view_blks h.vw h0 b hb).1; omega
/-- All that was drawn by both. -/
structure Drw (w : World) (B : Nat) (M R : List Nat) (ts : List (Value × Value × List Int)) : Prop where
  it : ∀ t, t ∈ ts → DrI w B M R t
  oo : ts.Pairwise fun s t => ∀ b, b ∈ vblk s.1 → b ∉ vblk t.1
  ow : ∀ s, s ∈ ts → ∀ t, t ∈ ts → t.2.2 ≠ [] → ∀ b, b ∈ vblk s.1 → b ∉ vblk t.2.1
theorem Drw.fr {w v : World} {B : Nat} {M R M' R' l : List Nat} {ts : List (Value × Value × List Int)} (h : Drw w B M R ts) (fr : Fr w v l) (hl : ∀ b, b ∈ l → b ∈ M ∨ w.heap.size ≤ b) (hM : ∀ b, b ∈ M' → b ∈ M ∨ w.heap.size ≤ b) (hR : ∀ b, b ∈ R' → b ∈ R ∨ w.heap.size ≤ b) : Drw v B M' R' ts := by
  refine ⟨fun t ht => (h.it t ht).fr fr (fun b hb q => ?_) (fun h0 b hb q => ?_) hM hR, h.oo, h.ow⟩
  · rcases hl b q with q | q
    · exact ((h.it t ht).om b hb).1 q
    · have := ((h.it t ht).ob b hb).2; omega
  · rcases hl b q with q | q
    · exact ((h.it t ht).wm h0 b hb).2 q
    · have := (view_blks (h.it t ht).vw h0 b hb).1; omega
theorem Drw.push {w : World} {B C : Nat} {M R : List Nat} {ts : List (Value × Value × List Int)} {t : Value × Value × List Int} (h : Drw w B M R ts) (ht : DrI w B M R t) (hold : ∀ s, s ∈ ts → (∀ b, b ∈ vblk s.1 → b < C) ∧ (s.2.2 ≠ [] → ∀ b, b ∈ vblk s.2.1 → b < C)) (hn : ∀ b, b ∈ vblk t.1 → C ≤ b) (hw : t.2.2 ≠ [] → ∀ b, b ∈ vblk t.2.1 → C ≤ b ∧ b ∉ vblk t.1) : Drw w B M R (ts ++ [t]) := by
  refine ⟨fun s hs => ?_, ?_, fun s hs r hr h0 b hb hx => ?_⟩
  · rcases List.mem_append.1 hs with hs | hs
    · exact h.it s hs
    · rw [List.mem_singleton.1 hs]; exact ht
  · refine List.pairwise_append.2 ⟨h.oo, List.pairwise_singleton _ _, fun s hs r hr b hb hx => ?_⟩
    rw [List.mem_singleton.1 hr] at hx
    have := (hold s hs).1 b hb
    have := hn b hx
    omega
  · rcases List.mem_append.1 hs with hs | hs
    · rcases List.mem_append.1 hr with hr | hr
      · exact h.ow s hs r hr h0 b hb hx
      · rw [List.mem_singleton.1 hr] at hx h0
        have := (hold s hs).1 b hb
        have := (hw h0 b hx).1
        omega
    · rw [List.mem_singleton.1 hs] at hb
      rcases List.mem_append.1 hr with hr | hr
      · have := (hold r hr).2 h0 b hx
        have := hn b hb
        omega
      · rw [List.mem_singleton.1 hr] at hx h0
        exact (hw h0 b hx).2 hb
theorem Drw.old {w : World} {B : Nat} {M R : List Nat} {ts : List (Value × Value × List Int)} (h : Drw w B M R ts) : ∀ s, s ∈ ts → (∀ b, b ∈ vblk s.1 → b < w.heap.size) ∧ (s.2.2 ≠ [] → ∀ b, b ∈ vblk s.2.1 → b < w.heap.size) :=
  fun s hs => ⟨fun b hb => ((h.it s hs).ob b hb).2, fun h0 b hb => (view_blks (h.it s hs).vw h0 b hb).1⟩
/-- All that the play has; what was drawn, if it is asked for. -/
structure PSD (Pp : Prop) (w : World) (B m : Nat) (d0 d1 : Option Desc) (ov wv : Value) (ts : List (Value × Value × List Int)) (left : Int) : Prop where
  ps : PS w B m d0 d1 ov wv ts.length (ts.map (·.1)) (ts.map (·.2.1)) left
  dr : Pp → Drw w B (PMb m d0 d1 ov wv) (orb d0 ++ orb d1) ts
theorem PSD.below {Pp : Prop} {w v : World} {B m : Nat} {d0 d1 : Option Desc} {ov wv : Value} {ts : List (Value × Value × List Int)} {left : Int} (h : PSD Pp w B m d0 d1 ov wv ts left) (b : Below w.heap.size w v) : PSD Pp v B m d0 d1 ov wv ts left :=
  ⟨h.ps.below b, fun p => (h.dr p).fr (l := []) (below_fr b _) (fun b hb => by cases hb) (fun b hb => .inl hb) (fun b hb => .inl hb)⟩
/-- The copies, as parts. -/
theorem lent_pl {w : World} {B n g : Nat} {v : Value} {vs : List Value} {yss : List (List Int)} (ho : w.ownsRow B 22 1 v n vs) (hl : vs.length = n) (hy : yss.length = n) (hL : Lent B w vs yss) (hg : g < B) : PL w g v yss := by
  have h0 := ho
  rcases ho.2 with ⟨rfl, e⟩ | ⟨g', c, cur, rfl, q1, q2, q3, q4, q5, q6⟩
  · exact .inl ⟨rfl, List.eq_nil_of_length_eq_zero (by omega)⟩
  · refine .inr ⟨⟨_, _, _, rfl⟩, _, c, by rw [hy], by omega, q4, ?_⟩
    refine .inr ⟨g', 0, rfl, by omega, fun i hi => ?_⟩
    have hi' : i < vs.length := by omega
    have hx : vs[i]? = some vs[i] := List.getElem?_eq_getElem hi'
    have c1 := h0.cells (g := g') rfl i _ hx
    rw [Addr.add_lit] at c1
    refine ⟨vs[i], c1, (hL i _ hx).view, fun _ b' off l c' e => ?_⟩
    have q := (hL i _ hx).blk_lt (g := b') (by rw [e]; rfl)
    omega
def gOf : Option Desc → List Nat
  | none => []
  | some q => [q.g]
def hOf : Option Desc → List Nat
  | none => []
  | some q => [q.h]
def drC (d : Option Desc) (n : Int) (tot : Nat) : Int := match d with | none => 1 | some q => drE n tot q.c q.L
def drZ (d : Option Desc) (n : Int) (ys : List Int) : List Int := match d with | none => [] | some q => if drE n ys.length q.c q.L = 0 then fL (drO q.dg q.K q.V ys) n.toNat else []
def drNK (q : Desc) (n : Int) (ys : List Int) : Nat → Int := if drE n ys.length q.c q.L = 0 then drK q.dg q.K q.V ys n.toNat else q.K
def drNV (q : Desc) (n : Int) (ys : List Int) : Nat → Int := if drE n ys.length q.c q.L = 0 then drV q.dg q.K q.V ys n.toNat else q.V
def drNc (q : Desc) (n : Int) (ys : List Int) : Int := if drE n ys.length q.c q.L = 0 then q.c + 1 else q.c
def PDrP (u w' : World) (e : Ending) (d : Option Desc) (n : Int) (ys : List Int) : Prop := ∃ oa on, e = .returned (.tuple #[.slice oa on on, .int .i64 (drC d n ys.length)]) ∧ OV w' u.heap.size oa on (drZ d n ys) ∧ (∀ q, d = some q → SpAt w' q.g q.dg (drNK q n ys) (drNV q n ys) q.L (drNc q n ys)) ∧ Fr u w' (gOf d)
theorem pdraw_any {w : World} {B : Nat} {d : Option Desc} (hD : ∀ d', d = some d' → DAt w B d') (n : Int) (v : Value) (yss : List (List Int)) (u : World) (hu : Sm w u) (hT : Tables u) (hB : 4 ≤ B) (hp : ∀ q, d = some q → PL u q.g v yss) (hl : yss.flatten.length ≤ 262144) (hlb : (2 + yss.length) * 24 ≤ 140737488355328) :
    Calls Tryd.prog 12 #[optg d, .int .i64 n, v] u fun e w' => Hid (PDrP u w' e d n yss.flatten) := by
  cases d with
  | none =>
    refine (spdraw_nil n v u).mono ?_
    intro e w' hh
    obtain ⟨h1, h2⟩ := hh.out
    exact ⟨none, 0, h1, .inl ⟨rfl, rfl, rfl⟩, fun q e => (by cases e), below_fr h2 _⟩
  | some q =>
    have a := hD q rfl
    have sp : SpAt u q.g q.dg q.K q.V q.L q.c := a.sp.block (by rw [hu.heap])
    have b1 := a.gB
    have b2 := a.cL
    have b3 := a.lL
    by_cases hE : drE n yss.flatten.length q.c q.L = 0
    · obtain ⟨h0, h1, h2, h3⟩ := drE_zero hE
      obtain ⟨k, rfl⟩ : ∃ k : Nat, n = k := ⟨n.toNat, by omega⟩
      refine (spdraw2 q.g q.dg q.K q.V q.L q.c k v yss u a.kn sp hT (hp q rfl) h2 hlb (by omega) (by omega) h3 a.c0 (by omega)).mono ?_
      rintro e w' ⟨b, rfl, r1, r2, r3, r4⟩
      refine ⟨some ⟨b, 0, none⟩, k, by rw [drC, hE], .inr ⟨b, _, rfl, r1, by omega, r2, by rw [drZ, if_pos hE]; rfl⟩, fun q' e => ?_, touch_fr r4⟩
      injection e with e
      subst e
      rw [drNK, drNV, drNc, if_pos hE, if_pos hE, if_pos hE]
      exact r3
    · refine (spdraw_bad q.g q.dg q.K q.V q.L q.c n v yss u sp (hp q rfl).parts (by omega) hE).mono ?_
      intro e w' hh
      obtain ⟨h1, h2⟩ := hh.out
      refine ⟨none, 0, h1, .inl ⟨rfl, rfl, by rw [drZ, if_neg hE]⟩, fun q' e => ?_, below_fr h2 _⟩
      injection e with e
      subst e
      rw [drNK, drNV, drNc, if_neg hE, if_neg hE, if_neg hE]
      exact sp.below h2
def RDrP (u w' : World) (e : Ending) (d : Option Desc) (n : Int) (ys : List Int) : Prop := ∃ ba bn bc ka kc va vc, e = .returned (.tuple #[.slice ba bn bc, .int .i64 (drC d n ys.length)]) ∧ View w' (.slice ba bn bc) (drZ d n ys) ∧ (∀ b off, ba = some ⟨b, off, none⟩ → u.heap.size ≤ b) ∧ (∀ q, d = some q → RSp w' q.h q.dg q.L (drNc q n ys) ka kc va vc (fL (drNK q n ys) (szOf q.dg)) (fL (drNV q n ys) (szOf q.dg)) ∧ ∀ b, b ∈ ablk ka ++ ablk va → b ∈ ablk q.ka ++ ablk q.va ∨ u.heap.size ≤ b) ∧ Fr u w' (hOf d)
theorem ablk_new {u w' : World} {ka va : Option Addr} {dg L c : Int} {g kc vc : Nat} {KL VL : List Int} (k : Known dg) (s : RSp w' g dg L c ka kc va vc KL VL) (h : New2 u ka va) : ∀ b, b ∈ ablk ka ++ ablk va → u.heap.size ≤ b := by
  intro b hb
  rcases (s.rb k b hb).2.2 with ⟨off, e⟩ | ⟨off, e⟩
  · exact h.1 b off e
  · exact h.2 b off e
theorem rdraw_any {w : World} {B : Nat} {d : Option Desc} (hD : ∀ d', d = some d' → DAt w B d') (n : Int) (xa : Option Addr) (xn xc : Nat) (xs : List Value) (yss : List (List Int)) (u : World) (hu : ∀ q, d = some q → RSp u q.h q.dg q.L q.c q.ka q.kc q.va q.vc (fL q.K (szOf q.dg)) (fL q.V (szOf q.dg))) (hR : RTab u) (hB : 4 ≤ B) (hP : PV u (.slice xa xn xc) xs yss) (hxn : xs.length = xn) (hl : yss.flatten.length ≤ 262144) (hxb : xn ≤ 1048576) :
    Calls Tryd.prog 19 #[opth d, .int .i64 n, .slice xa xn xc] u fun e w' => Hid (RDrP u w' e d n yss.flatten) := by
  cases d with
  | none =>
    refine (rdraw_nil n xa xn xc xs yss u hP hxn (by show _ ≤ _; omega) hxb).mono ?_
    intro e w' hh
    obtain ⟨h1, h2⟩ := hh.out
    exact ⟨none, 0, 0, none, 0, none, 0, h1, ⟨none, 0, rfl, Nat.le_refl _, Nat.zero_le _, fun _ => rfl, .inl rfl⟩, fun b off e => (by cases e), fun q e => (by cases e), below_fr h2 _⟩
  | some q =>
    have a := hD q rfl
    have sp := hu q rfl
    have b1 := a.hB
    have b2 := a.cL
    have b3 := a.lL
    by_cases hE : drE n yss.flatten.length q.c q.L = 0
    · obtain ⟨h0, h1, h2, h3⟩ := drE_zero hE
      obtain ⟨k, rfl⟩ : ∃ k : Nat, n = k := ⟨n.toNat, by omega⟩
      refine (rdraw_ok q.h q.dg q.K q.V q.L q.c q.ka q.va xa q.kc q.vc xn xc k xs yss u a.kn sp hR hP hxn h2 hxb (by omega) (by omega) h3 a.c0 (by omega)).mono ?_
      intro e w' hh
      obtain ⟨ba, bc, ka', kc', va', vc', rfl, r1, r2, r3, r4, r5⟩ := hh.out
      refine ⟨ba, k, bc, ka', kc', va', vc', by rw [drC, hE], by rw [drZ, if_pos hE]; exact r1, r2, fun q' e => ?_, touch_fr r4⟩
      injection e with e
      subst e
      rw [drNK, drNV, drNc, if_pos hE, if_pos hE, if_pos hE]
      exact ⟨r3, fun b hb => .inr (ablk_new a.kn r3 r5 b hb)⟩
    · refine (rdraw_bad q.h q.dg q.L q.c q.ka q.va q.kc q.vc _ _ n xa xn xc xs yss u sp hP hxn (by omega) hxb hE).mono ?_
      intro e w' hh
      obtain ⟨h1, h2⟩ := hh.out
      refine ⟨none, 0, 0, q.ka, q.kc, q.va, q.vc, h1, by rw [drZ, if_neg hE]; exact ⟨none, 0, rfl, Nat.le_refl _, Nat.zero_le _, fun _ => rfl, .inl rfl⟩, fun b off e => (by cases e), fun q' e => ?_, below_fr h2 _⟩
      injection e with e
      subst e
      rw [drNK, drNV, drNc, if_neg hE, if_neg hE, if_neg hE]
      exact ⟨sp.below h2, fun b hb => .inl hb⟩
def fdC (d : Option Desc) (en tot : Nat) : Int := match d with | none => 1 | some q => fdE en tot
def fdNK (q : Desc) (E ys : List Int) : Nat → Int := if fdE E.length ys.length = 0 then updK q.dg q.K q.V (E ++ ys) else q.K
def fdNV (q : Desc) (E ys : List Int) : Nat → Int := if fdE E.length ys.length = 0 then updV q.dg q.K q.V (E ++ ys) else q.V
def fdNc (q : Desc) (E ys : List Int) : Int := if fdE E.length ys.length = 0 then 0 else q.c
def PFdP (u w' : World) (e : Ending) (d : Option Desc) (E ys : List Int) : Prop := e = .returned (.int .i64 (fdC d E.length ys.length)) ∧ (∀ q, d = some q → SpAt w' q.g q.dg (fdNK q E ys) (fdNV q E ys) q.L (fdNc q E ys)) ∧ Fr u w' (gOf d)
theorem pfeed_any {w : World} {B : Nat} {d : Option Desc} (hD : ∀ d', d = some d' → DAt w B d') (ea : Option Addr) (en ec : Nat) (E : List Int) (v : Value) (yss : List (List Int)) (u : World) (hu : ∀ q, d = some q → SpAt u q.g q.dg q.K q.V q.L q.c) (hT : Tables u) (hB : 4 ≤ B) (he : View u (.slice ea en ec) E) (hel : E.length = en) (heg : ∀ q, d = some q → E ≠ [] → ∀ b off l c, (.slice ea en ec : Value) = .slice (some ⟨b, off, none⟩) l c → b ≠ q.g) (hp : ∀ q, d = some q → PL u q.g v yss) (hl : yss.flatten.length ≤ 262144) (hlb : (3 + yss.length) * 24 ≤ 140737488355328) :
    Calls Tryd.prog 14 #[optg d, .slice ea en ec, v] u fun e w' => Hid (PFdP u w' e d E yss.flatten) := by
  subst hel
  cases d with
  | none =>
    refine (spfeed_nil _ v u).mono ?_
    rintro e w' ⟨h1, rfl⟩
    exact ⟨h1, fun q e => (by cases e), Fr.refl _ _⟩
  | some q =>
    have a := hD q rfl
    have sp := hu q rfl
    have b1 := a.gB
    by_cases hE : fdE E.length yss.flatten.length = 0
    · obtain ⟨h0, h1, h2⟩ := fdE_zero hE
      refine (spfeed q.g q.dg q.K q.V q.L q.c ea E.length ec E v yss u a.kn sp hT he rfl (heg q rfl) h0 h1 (hp q rfl) h2 hlb (by omega)).mono ?_
      rintro e w' ⟨rfl, r1, r2⟩
      refine ⟨by rw [fdC, hE], fun q' e => ?_, touch_fr r2⟩
      injection e with e
      subst e
      rw [fdNK, fdNV, fdNc, if_pos hE, if_pos hE, if_pos hE]
      exact r1
    · refine (sfeed_bad q.g ea E.length ec v yss u (hp q rfl).parts (by omega) hE).mono ?_
      rintro e w' ⟨h1, rfl⟩
      refine ⟨h1, fun q' e => ?_, Fr.refl _ _⟩
      injection e with e
      subst e
      rw [fdNK, fdNV, fdNc, if_neg hE, if_neg hE, if_neg hE]
      exact sp
def RFdP (u w' : World) (e : Ending) (d : Option Desc) (E ys : List Int) : Prop := ∃ ka kc va vc, e = .returned (.int .i64 (fdC d E.length ys.length)) ∧ (∀ q, d = some q → RSp w' q.h q.dg q.L (fdNc q E ys) ka kc va vc (fL (fdNK q E ys) (szOf q.dg)) (fL (fdNV q E ys) (szOf q.dg)) ∧ ∀ b, b ∈ ablk ka ++ ablk va → b ∈ ablk q.ka ++ ablk q.va ∨ u.heap.size ≤ b) ∧ Fr u w' (hOf d)
theorem rfeed_any {w : World} {B : Nat} {d : Option Desc} (hD : ∀ d', d = some d' → DAt w B d') (ea : Option Addr) (en ec : Nat) (E : List Int) (xa : Option Addr) (xn xc : Nat) (xs : List Value) (yss : List (List Int)) (u : World) (hu : ∀ q, d = some q → RSp u q.h q.dg q.L q.c q.ka q.kc q.va q.vc (fL q.K (szOf q.dg)) (fL q.V (szOf q.dg))) (hR : RTab u) (hB : 4 ≤ B) (he : View u (.slice ea en ec) E) (hel : E.length = en) (hP : PV u (.slice xa xn xc) xs yss) (hxn : xs.length = xn) (hl : yss.flatten.length ≤ 262144) (hxb : xn ≤ 1048576) :
    Calls Tryd.prog 36 #[opth d, .slice ea en ec, .slice xa xn xc] u fun e w' => Hid (RFdP u w' e d E yss.flatten) := by
  subst hel
  cases d with
  | none =>
    refine (rfeed_nil ea E.length ec xa xn xc xs yss u hP hxn (by show _ ≤ _; omega) hxb).mono ?_
    intro e w' hh
    obtain ⟨h1, h2⟩ := hh.out
    exact ⟨none, 0, none, 0, h1, fun q e => (by cases e), below_fr h2 _⟩
  | some q =>
    have a := hD q rfl
    have sp := hu q rfl
    have b1 := a.hB
    by_cases hE : fdE E.length yss.flatten.length = 0
    · obtain ⟨h0, h1, h2⟩ := fdE_zero hE
      refine (rfeed_ok q.h q.dg q.K q.V q.L q.c q.ka q.va xa ea q.kc q.vc xn xc E.length ec E xs yss u a.kn sp hR he rfl hP hxn h2 hxb (by omega) h0 h1).mono ?_
      intro e w' hh
      obtain ⟨ka', kc', va', vc', rfl, r1, r2, r3⟩ := hh.out
      refine ⟨ka', kc', va', vc', by rw [fdC, hE], fun q' e => ?_, touch_fr r2⟩
      injection e with e
      subst e
      rw [fdNK, fdNV, fdNc, if_pos hE, if_pos hE, if_pos hE]
      exact ⟨r1, fun b hb => .inr (ablk_new a.kn r1 r3 b hb)⟩
    · refine (rfeed_bad q.h ea E.length ec xa xn xc xs yss u hP hxn (by omega) hxb hE).mono ?_
      intro e w' hh
      obtain ⟨h1, h2⟩ := hh.out
      refine ⟨q.ka, q.kc, q.va, q.vc, h1, fun q' e => ?_, below_fr h2 _⟩
      injection e with e
      subst e
      rw [fdNK, fdNV, fdNc, if_neg hE, if_neg hE, if_neg hE]
      exact ⟨sp.below h2, fun b hb => .inl hb⟩
end Go.Proofs.YtkeklmkaleomkaaDoor
