import Derived.Test.YtkeklmkaleomkaaDoorPart04
import Derived.BigQuiet
namespace Go.Proofs.YtkeklmkaleomkaaDoor
open Go.RowKit
set_option linter.unusedVariables false
set_option linter.unusedSimpArgs false
def turnV (h : Int) (K V : Nat → Int) : Nat → Int := over V (hmac h (fL K (szOf h)) (fL V (szOf h)))
theorem hmac_len {h : Int} (k : Known h) (key zs : List Int) : (hmac h key zs).length = szOf h := macL_length k _ _ _
theorem Below.ofSm {w u v : World} (h : Below w.heap.size w u) (s : Sm u v) : Below w.heap.size w v := ⟨s.os.trans h.os, s.tape.trans h.tape, s.output.trans h.output, by rw [s.heap]; exact h.size, fun q hq => by rw [s.heap]; exact h.block q hq⟩
set_option maxHeartbeats 800000 in
set_option maxRecDepth 100000 in
/-- state.turn. -/
theorem turn_ok (g : Nat) (h : Int) (K V : Nat → Int) (L c : Int) (w : World) (k : Hid (Known h)) (hs : Hid (SpAt w g h K V L c)) (hT : Hid (Tables w)) :
    Calls Tryd.prog 41 #[.pointer (some ⟨g, 0, none⟩)] w fun e w' => e = .returned (.tuple #[]) ∧ SpAt w' g h K (turnV h K V) L c ∧ Touch w w' g 0 131 := by
  obtain ⟨n, HN⟩ : ∃ n : Nat, Hid (n = szOf h) := ⟨_, (show _ = _ from rfl)⟩
  have hn : (n : Int) ≤ 64 := by rw [HN.out]; have := szOf_le k.out; omega
  have hn0 : (0 : Int) ≤ (n : Int) := by omega
  have c0 : w.cell? ⟨g, 0, none⟩ = some (.int .i64 h) := hs.out.hash
  obtain ⟨Z, HZ⟩ : ∃ Z, Hid (Z = hmac h (fL K n) (fL V n)) := ⟨_, rfl⟩
  have HZl : Hid (Z.length = n) := by show _ = _; rw [HZ.out, hmac_len k.out, HN.out]
  have H46 : Hid (∀ u, Sm (w.alloc (.cells #[.slice (some ⟨g, 65, none⟩) n 64] 22)) u → Calls Tryd.prog 46 #[.pointer (some ⟨g, 0, none⟩), .slice (some ⟨w.heap.size, 0, none⟩) 1 1] u fun e w' => Hid (∃ b, e = .returned (.slice (some ⟨b, 0, none⟩) n n) ∧ View w' (.slice (some ⟨b, 0, none⟩) n n) Z ∧ Below w.heap.size w w')) := by
    intro u hsm
    have ba := below_alloc1 w (.cells #[.slice (some ⟨g, 65, none⟩) n 64] 22)
    have hbu := Below.ofSm ba hsm
    have hsz : u.heap.size = w.heap.size + 1 := by rw [hsm.heap]; exact size_alloc1 _ _
    have hx := hs.out.viewV n (by omega)
    have q := spcode g h K V L c [fL V n] (.slice (some ⟨w.heap.size, 0, none⟩) 1 1) u k (hs.out.below hbu) (fun x g' hxb hg' => by
      have hp := parts1_alloc (u := w) 22 (.slice (some ⟨g, 65, none⟩) n 64) (fL V n) g' hx (by omega) (fun _ b off l c e => by injection e with e1 _ _; injection e1 with e1; injection e1 with e2 _; have := hs.out.lt; omega)
      refine parts_keep hp (fun q hq => ?_)
      rw [hxb.block q (by rw [hsz]; rw [size_alloc1] at hq; exact hq), hsm.heap]) (hT.out.below hbu hT.out.size) (by show _ ≤ _; simp [fL_length]; omega)
    rw [← HN.out] at q
    refine q.mono ?_
    rintro e w' ⟨b, q1, q2, q3⟩
    have e1 : hmac h (fL K n) ([fL V n] : List (List Int)).flatten = Z := by rw [HZ.out]; simp
    rw [e1] at q2
    exact ⟨b, q1, viewOwns q2 HZl.out, hbu.trans (q3.mono hbu.size)⟩
  go_enter Tryd.func41, Tryd.ntmps41
  go_region_with (first
    | (go_at_call 39; refine (size_known k.out _).mono ?_; rintro e5 w5 ⟨rfl, hw5⟩; obtain rfl := hw5.symm; rw [← HN.out])
    | (go_at_call 46; refine (H46.out _ ?_).mono ?_; exact ⟨rfl, rfl, rfl, rfl⟩; intro e6 w6 hh; obtain ⟨b, rfl, hv6, hb6⟩ := hh.out; have hcp := copy_eq w6 g 65 64 64 (some ⟨b, 0, none⟩) n n n Z (by omega) hv6 (fun j hj => by have q := (hs.out.below hb6).there (65 + j) (by omega); rwa [Nat.zero_add] at q)))
  have hfin : SpAt (w6.setCells g 65 (cellsU8 (List.take n Z))) g h K (turnV h K V) L c ∧ Touch w (w6.setCells g 65 (cellsU8 (List.take n Z))) g 0 131 := by
    have ez : List.take n Z = Z := List.take_of_length_le (by rw [HZl.out]; exact Nat.le_refl _)
    rw [ez]
    refine ⟨?_, ((Touch.refl w g 0 131).below hb6 hs.out.lt).setCells 65 _ (by omega) (by rw [cellsU8_length, HZl.out]; omega)⟩
    have q := (hs.out.below hb6).setV Z (by rw [HZl.out]; omega)
    unfold turnV
    rw [← HN.out, ← HZ.out]
    exact q
  go_end0
  exact ⟨rfl, hfin⟩
/-- Lists that are handed on: none, or some. -/
def PL (w : World) (g : Nat) (v : Value) (yss : List (List Int)) : Prop := (v = .slice none 0 0 ∧ yss = []) ∨ (∃ ad m c, v = .slice (some ad) m c) ∧ Parts w g v yss
theorem PL.parts {w : World} {g : Nat} {v : Value} {yss : List (List Int)} (h : PL w g v yss) : Parts w g v yss := by
  rcases h with ⟨rfl, rfl⟩ | h
  · exact ⟨none, 0, rfl, by simp, by simp [maxLen], .inl rfl⟩
  · exact h.2
theorem Tryd.info22' : (Tryd.prog.info? 22).map (fun i => (i.zero, i.size, i.bytes)) = some (some (.slice none 0 0), 1, 24) := by kernel_rfl
theorem info22_parts : ∃ i, Tryd.prog.info? 22 = some i ∧ i.zero = some (.slice none 0 0) ∧ i.size = 1 ∧ i.bytes = 24 := by
  have q := Tryd.info22'
  cases hi : Tryd.prog.info? 22 with
  | none => rw [hi] at q; cases q
  | some i =>
    rw [hi] at q
    simp at q
    exact ⟨i, rfl, q.1, q.2.1, q.2.2⟩
/-- append of lists to a row that is owned. -/
theorem append_run (w0 w : World) (hk : ∀ q, q < w0.heap.size → w.heap[q]? = w0.heap[q]?) (base : Nat) (v0 : Value) (xs : List Value) (hown : w.ownsRow base 22 1 v0 xs.length xs) (v : Value) (yss : List (List Int)) (g : Nat) (hp : PL w0 g v yss) (hbase : base ≤ w.heap.size) (hb : (xs.length + yss.length) * 24 ≤ 140737488355328) (ty : TypeId) :
    ∃ v' ws w', (Builtin.append_ #[37, 37] ty #[v0, v]).run Tryd.prog w = .ok v' w' ∧ w'.ownsRow base 22 1 v' (xs.length + yss.length) (xs ++ ws) ∧ w.grownBy w' v0.ownBlock ∧ ws.length = yss.length ∧ (∀ i x, ws[i]? = some x → View w0 x (yss.getD i []) ∧ (yss.getD i [] ≠ [] → ∀ b' off l c', x = .slice (some ⟨b', off, none⟩) l c' → b' ≠ g)) := by
  obtain ⟨i, hi, hz0, hz1, hz2⟩ := info22_parts
  rcases hp with ⟨rfl, rfl⟩ | ⟨⟨ad, m, c, rfl⟩, hp⟩
  · refine ⟨v0, [], w, run_append_owned_none (P := Tryd.prog) (w := w) base 37 ty 22 i 1 Tryd.underlying37 hi v0 xs.length xs hown, by simpa using hown, ⟨rfl, rfl, rfl, Nat.le_refl _, fun _ _ _ => rfl⟩, rfl, fun i x hx => by simp at hx⟩
  · obtain ⟨a, c', e, h1, h2, h3⟩ := hp
    injection e with e1 e2 e3
    subst e1 e2 e3
    have hws : ∃ ws : List Value, ws.length = yss.length ∧ ∀ j u, ws[j]? = some u → w.cell? (ad.add j) = some u ∧ View w0 u (yss.getD j []) ∧ (yss.getD j [] ≠ [] → ∀ b' off l c', u = .slice (some ⟨b', off, none⟩) l c' → b' ≠ g) := by
      rcases h3 with rfl | ⟨b, p, e, _, hc⟩
      · exact ⟨[], rfl, fun j u hu => by simp at hu⟩
      · injection e with e
        subst e
        refine ⟨(List.range yss.length).map fun i => (w0.cell? ⟨b, p + i, none⟩).getD undef, by simp, fun j u hu => ?_⟩
        have hj : j < yss.length := by
          rcases Nat.lt_or_ge j yss.length with hlt | hge
          · exact hlt
          · rw [List.getElem?_eq_none (by simpa using hge)] at hu; cases hu
        obtain ⟨x, q1, q2, q3⟩ := hc j hj
        have hux : u = x := by simpa [List.getElem?_map, List.getElem?_range hj, q1] using hu.symm
        subst hux
        rw [Addr.add_lit, World.cell?_of_block (a := ⟨b, p + j, none⟩) (hk b (lt_of_cell q1))]
        exact ⟨q1, q2, q3⟩
    obtain ⟨ws, hwl, hw⟩ := hws
    obtain ⟨v', w', r1, r2, r3, _, _⟩ := run_append_own_at (P := Tryd.prog) w base 37 ty 22 i (.slice none 0 0) 1 24 Tryd.underlying37 hi hz0 hz1 hz2 rfl (by decide) v0 xs.length xs hown ad yss.length c ws (by rw [hwl, Nat.mul_one]) (fun j u hu => (hw j u hu).1) (fun u hu => by
      obtain ⟨j, hj⟩ := List.getElem?_of_mem hu
      obtain ⟨_, _, e, _⟩ := (hw j u hj).2.1
      rw [e]
      rfl) (by unfold maxLen; omega) hb hbase
    exact ⟨v', ws, w', r1, r2, r3, hwl, fun j x hx => (hw j x hx).2⟩
theorem wp_append_parts {w w' : World} {v0 v v' : Value} {o : Oper} {a : Act} {K : Act → World → Prop} {Q : Exit → Act → World → Prop} (s x : Operand) (ho : o.op = .call { callee := .builtin .append, args := #[s, x], argTypes := #[37, 37] }) (hs : a.eval s = v0) (hx : a.eval x = v) (hrun : (Builtin.append_ #[37, 37] o.type #[v0, v]).run Tryd.prog w = .ok v' w') (h : K (a.put o.dst v') w') : o.wp Tryd.prog a w K Q := by
  unfold Oper.wp execOp
  simp only [ho, resolve, invoke, builtin, Sem.run_bind, Sem.run_pure, Result.andThen_ok, List.map_toArray, List.map_cons, List.map_nil, hs, hx, hrun]
  exact h
def mixK (h : Int) (K V : Nat → Int) (mk : Int) (ys : List Int) : Nat → Int := over K (hmac h (fL K (szOf h)) (fL V (szOf h) ++ (mk :: ys)))
set_option maxHeartbeats 800000 in
set_option maxRecDepth 100000 in
/-- state.mix. -/
theorem mix_ok (g : Nat) (h : Int) (K V : Nat → Int) (L c mk : Int) (v : Value) (yss : List (List Int)) (w : World) (k : Hid (Known h)) (hs : Hid (SpAt w g h K V L c)) (hT : Hid (Tables w)) (hp : Hid (PL w g v yss)) (hl : Hid (yss.flatten.length ≤ 33554000)) (hlb : Hid ((2 + yss.length) * 24 ≤ 140737488355328)) (hg : 4 ≤ g) :
    Calls Tryd.prog 40 #[.pointer (some ⟨g, 0, none⟩), .int .u8 mk, v] w fun e w' => e = .returned (.tuple #[]) ∧ SpAt w' g h (mixK h K V mk yss.flatten) (turnV h (mixK h K V mk yss.flatten) V) L c ∧ Touch w w' g 0 131 := by
  obtain ⟨n, HN⟩ : ∃ n : Nat, Hid (n = szOf h) := ⟨_, (show _ = _ from rfl)⟩
  have hn : (n : Int) ≤ 64 := by rw [HN.out]; have := szOf_le k.out; omega
  have hn0 : (0 : Int) ≤ (n : Int) := by omega
  have c0 : w.cell? ⟨g, 0, none⟩ = some (.int .i64 h) := hs.out.hash
  go_enter Tryd.func40, Tryd.ntmps40
  go_upto_region 1 with (go_at_call 39; refine (size_known k.out _).mono ?_; rintro e5 w5 ⟨rfl, hw5⟩; obtain rfl := hw5.symm; rw [← HN.out])
  obtain ⟨W, hW⟩ : ∃ W, W = (w.alloc (.cells #[.int .u8 mk] 5)).alloc (.cells #[.slice (some ⟨g, 65, none⟩) n 64, .slice (some ⟨w.heap.size, 0, none⟩) 1 1] 22) := ⟨_, rfl⟩
  have b1 := below_alloc1 w (.cells #[.int .u8 mk] 5)
  have b2 := below_alloc1 (w.alloc (.cells #[.int .u8 mk] 5)) (.cells #[.slice (some ⟨g, 65, none⟩) n 64, .slice (some ⟨w.heap.size, 0, none⟩) 1 1] 22)
  have hs1 : (w.alloc (.cells #[.int .u8 mk] 5)).heap.size = w.heap.size + 1 := size_alloc1 _ _
  have hsW : W.heap.size = w.heap.size + 1 + 1 := by rw [hW]; simp
  have HBW : Hid (Below w.heap.size w W) := by rw [hW]; exact b1.trans (b2.mono (by omega))
  have howW : W.ownsRow (w.heap.size + 1) 22 1 (.slice (some ⟨w.heap.size + 1, 0, none⟩) 2 2) 2 [.slice (some ⟨g, 65, none⟩) n 64, .slice (some ⟨w.heap.size, 0, none⟩) 1 1] := by
    have q := World.ownsRow_lit (base := w.heap.size + 1) (e := 22) (size := 1) (w.alloc (.cells #[.int .u8 mk] 5)) #[.slice (some ⟨g, 65, none⟩) n 64, .slice (some ⟨w.heap.size, 0, none⟩) 1 1] 2 (by omega) (by decide) rfl
    rw [hs1, ← hW] at q
    exact q
  obtain ⟨v', ws, w', hap, hown, hgrow, hwl, hws⟩ := append_run w W.drew (fun q hq => HBW.out.block q hq) (w.heap.size + 1) _ [.slice (some ⟨g, 65, none⟩) n 64, .slice (some ⟨w.heap.size, 0, none⟩) 1 1] howW.drew v yss g hp.out (by show _ ≤ W.heap.size; omega) hlb.out 37
  rw [hW] at hap
  have HOW : Hid (w'.ownsRow (w.heap.size + 1) 22 1 v' (2 + yss.length) (.slice (some ⟨g, 65, none⟩) n 64 :: .slice (some ⟨w.heap.size, 0, none⟩) 1 1 :: ws)) := hown
  have HBw : Hid (Below w.heap.size w w') := by
    have q : Below w.heap.size w W.drew := ⟨HBW.out.os, HBW.out.tape, HBW.out.output, HBW.out.size, HBW.out.block⟩
    exact q.grown hgrow q.size (fun b hb => by have hb' : some (w.heap.size + 1) = some b := hb; injection hb' with hb'; omega)
  have HBl : Hid (∀ q, q < w.heap.size + 1 → w'.heap[q]? = W.heap[q]?) := fun q hq => hgrow.block q (by show q < W.heap.size; omega) (fun e => by have e' : some q = some (w.heap.size + 1) := e; injection e' with e'; omega)
  obtain ⟨Z, HZ⟩ : ∃ Z, Hid (Z = hmac h (fL K n) (fL V n ++ (mk :: yss.flatten))) := ⟨_, rfl⟩
  have HZl : Hid (Z.length = n) := by show _ = _; rw [HZ.out, hmac_len k.out, HN.out]
  have H46 : Hid (Calls Tryd.prog 46 #[.pointer (some ⟨g, 0, none⟩), v'] w' fun e w'' => Hid (∃ b, e = .returned (.slice (some ⟨b, 0, none⟩) n n) ∧ View w'' (.slice (some ⟨b, 0, none⟩) n n) Z ∧ Below w.heap.size w w'')) := by
    have hpv : PV w' v' (.slice (some ⟨g, 65, none⟩) n 64 :: .slice (some ⟨w.heap.size, 0, none⟩) 1 1 :: ws) (fL V n :: [mk] :: yss) := by
      have hvV : View w' (.slice (some ⟨g, 65, none⟩) n 64) (fL V n) := (hs.out.below HBw.out).viewV n (by omega)
      have hv1 : View w' (.slice (some ⟨w.heap.size, 0, none⟩) 1 1) [mk] := by
        have q1 : View (w.alloc (.cells #[.int .u8 mk] 5)) (.slice (some ⟨w.heap.size, 0, none⟩) 1 1) [mk] := by
          refine ⟨_, 1, rfl, by simp, by simp [maxLen], (fun e => by cases e), .inr ⟨w.heap.size, 0, rfl, fun i hi => ?_⟩⟩
          obtain rfl : i = 0 := by simpa using hi
          rw [World.cell?_alloc_at _ _ _ _ rfl]
          rfl
        refine q1.kept (fun q hq => ?_)
        rw [hs1] at hq
        rw [HBl.out q hq, hW]
        exact b2.block q (by rw [hs1]; exact hq)
      rcases HOW.out.2 with ⟨_, e0⟩ | ⟨gp, cp, cur, e, q1, q2, q3, q4, q5, q6⟩
      · omega
      · refine ⟨some ⟨gp, 0, none⟩, cp, by rw [e]; simp [hwl]; omega, by simp [hwl]; omega, q4, by simp [hwl], fun i x hx => ?_, .inr ⟨gp, 0, rfl, fun i x hx => ?_⟩⟩
        · match i, hx with
          | 0, hx => simp at hx; subst hx; exact hvV
          | 1, hx => simp at hx; subst hx; exact hv1
          | i + 2, hx =>
            simp at hx
            have q := (hws i x hx).1
            have e2 : (fL V n :: [mk] :: yss).getD (i + 2) [] = yss.getD i [] := by simp [List.getD]
            rw [e2]
            exact q.kept (fun j hj => HBw.out.block j hj)
        · have hc := HOW.out.cells (g := gp) (by rw [e]; rfl) i x hx
          rw [Addr.add_lit] at hc
          exact hc
    have q := spcode g h K V L c (fL V n :: [mk] :: yss) v' w' k (hs.out.below HBw.out) (fun x g' hxb hg' => parts_keep (hpv.parts g' hg') (fun q hq => hxb.block q hq)) (hT.out.below HBw.out hT.out.size) (by show _ ≤ _; have := hl.out; simp [fL_length] at this ⊢; omega)
    rw [← HN.out] at q
    refine q.mono ?_
    rintro e w'' ⟨b, q1, q2, q3⟩
    have e1 : hmac h (fL K n) (fL V n :: [mk] :: yss).flatten = Z := by rw [HZ.out]; simp
    rw [e1] at q2
    exact ⟨b, q1, viewOwns q2 HZl.out, HBw.out.trans (q3.mono HBw.out.size)⟩
  have hS0 : Touch w w.drew g 0 131 := (Touch.refl _ _ _ _).drew
  refine wp_region_noPanic ?_
  refine wp_region_held_drew (S := fun u => Touch w u g 0 131) (by kernel_rfl) (hS0) (fun _ => ?_)
  refine takeH_at 0 12 (.pointer (some ⟨g, 0, none⟩)) rfl rfl (by kernel_rfl) (by kernel_rfl) (by kernel_rfl) (fun _ _ _ h => h) (hS0) (Or.inl ⟨by kernel_rfl, fun w' hS' => by go_simp⟩) ?_
  simp only [List.setIfInBounds_toArray, List.set_cons_zero, List.set_cons_succ]
  refine takeH_at 1 13 (.pointer (some ⟨g, 0, none⟩)) rfl rfl (by kernel_rfl) (by kernel_rfl) (by kernel_rfl) (fun _ _ _ h => h) (hS0) (Or.inl ⟨by kernel_rfl, fun w' hS' => by go_simp⟩) ?_
  simp only [List.setIfInBounds_toArray, List.set_cons_zero, List.set_cons_succ]
  refine takeH_at 2 14 (.pointer (some ⟨g, 1, none⟩)) rfl rfl (by kernel_rfl) (by kernel_rfl) (by kernel_rfl) (fun _ _ _ h => h) (hS0) (Or.inl ⟨by kernel_rfl, fun w' hS' => by go_simp⟩) ?_
  simp only [List.setIfInBounds_toArray, List.set_cons_zero, List.set_cons_succ]
  refine takeH_at 3 15 (.slice (some ⟨g, 1, none⟩) 64 64) rfl rfl (by kernel_rfl) (by kernel_rfl) (by kernel_rfl) (fun _ _ _ h => h) (hS0) (Or.inl ⟨by kernel_rfl, fun w' hS' => by go_simp⟩) ?_
  simp only [List.setIfInBounds_toArray, List.set_cons_zero, List.set_cons_succ]
  refine takeH_at 4 16 (.pointer (some ⟨g, 0, none⟩)) rfl rfl (by kernel_rfl) (by kernel_rfl) (by kernel_rfl) (fun _ _ _ h => h) (hS0) (Or.inl ⟨by kernel_rfl, fun w' hS' => by go_simp⟩) ?_
  simp only [List.setIfInBounds_toArray, List.set_cons_zero, List.set_cons_succ]
  refine takeH_at 5 17 (.pointer (some ⟨g, 0, none⟩)) rfl rfl (by kernel_rfl) (by kernel_rfl) (by kernel_rfl) (fun _ _ _ h => h) (hS0) (Or.inl ⟨by kernel_rfl, fun w' hS' => by go_simp⟩) ?_
  simp only [List.setIfInBounds_toArray, List.set_cons_zero, List.set_cons_succ]
  refine takeH_at 6 18 (.pointer (some ⟨g, 0, none⟩)) rfl rfl (by kernel_rfl) (by kernel_rfl) (by kernel_rfl) (fun _ _ _ h => h) (hS0) (Or.inl ⟨by kernel_rfl, fun w' hS' => by go_simp⟩) ?_
  simp only [List.setIfInBounds_toArray, List.set_cons_zero, List.set_cons_succ]
  refine takeH_at 7 19 (.pointer (some ⟨g, 65, none⟩)) rfl rfl (by kernel_rfl) (by kernel_rfl) (by kernel_rfl) (fun _ _ _ h => h) (hS0) (Or.inl ⟨by kernel_rfl, fun w' hS' => by go_simp⟩) ?_
  simp only [List.setIfInBounds_toArray, List.set_cons_zero, List.set_cons_succ]
  refine takeH_at 8 20 (.int .i64 (n : Nat)) rfl rfl (by kernel_rfl) (by kernel_rfl) (by kernel_rfl) (fun _ _ _ h => h) (hS0) (Or.inl ⟨by kernel_rfl, fun w' hS' => by go_simp⟩) ?_
  simp only [List.setIfInBounds_toArray, List.set_cons_zero, List.set_cons_succ]
  refine takeH_at 9 21 (.slice (some ⟨g, 65, none⟩) n 64) rfl rfl (by kernel_rfl) (by kernel_rfl) (by kernel_rfl) (fun _ _ _ h => h) (hS0) (Or.inl ⟨by kernel_rfl, fun w' hS' => by go_simp⟩) ?_
  simp only [List.setIfInBounds_toArray, List.set_cons_zero, List.set_cons_succ]
  refine takeH_at 10 22 (.int .u8 mk) rfl rfl (by kernel_rfl) (by kernel_rfl) (by kernel_rfl) (fun _ _ _ h => h) (hS0) (Or.inl ⟨by kernel_rfl, fun w' hS' => by go_simp⟩) ?_
  simp only [List.setIfInBounds_toArray, List.set_cons_zero, List.set_cons_succ]
  refine takeH_at 13 25 (v) rfl rfl (by kernel_rfl) (by kernel_rfl) (by kernel_rfl) (fun _ _ _ h => h) (hS0) (Or.inl ⟨by kernel_rfl, fun w' hS' => by go_simp⟩) ?_
  simp only [List.setIfInBounds_toArray, List.set_cons_zero, List.set_cons_succ]
  refine wpAnyH_ready (rs := [11]) (by kernel_rfl) (by simp) ?_
  refine AllReadyH.cons rfl (fun Kc hK => ?_) AllReadyH.nil
  go_simp
  refine hK.out _ _ ((hS0).alloc _ hs.out.lt) (fun _ => ?_)
  clear hK Kc
  try simp only [List.setIfInBounds_toArray, List.set_cons_zero, List.set_cons_succ]
  refine wpAnyH_ready (rs := [12]) (by kernel_rfl) (by simp) ?_
  refine AllReadyH.cons rfl (fun Kc hK => ?_) AllReadyH.nil
  go_simp
  refine hK.out _ _ (((hS0).alloc _ hs.out.lt).alloc _ hs.out.lt) (fun _ => ?_)
  clear hK Kc
  try simp only [List.setIfInBounds_toArray, List.set_cons_zero, List.set_cons_succ]
  refine wpAnyH_ready (rs := [14]) (by kernel_rfl) (by simp) ?_
  refine AllReadyH.cons rfl (fun Kc hK => ?_) AllReadyH.nil
  refine wp_append_parts (.tmp 24) (.tmp 25) rfl rfl rfl hap ?_
  refine hK.out _ _ ((Touch.refl w g 0 131).below HBw.out hs.out.lt) (fun _ => ?_)
  clear hK Kc
  try simp only [List.setIfInBounds_toArray, List.set_cons_zero, List.set_cons_succ]
  refine wpAnyH_ready (rs := [15]) (by kernel_rfl) (by simp) ?_
  refine AllReadyH.cons rfl (fun Kc hK => ?_) AllReadyH.nil
  go_simp
  refine H46.out.mono ?_
  intro e6 w6 hh
  obtain ⟨b, rfl, hv6, hb6⟩ := hh.out
  go_wp2_with fail
  refine hK.out _ _ ((Touch.refl w g 0 131).below hb6 hs.out.lt) (fun _ => ?_)
  clear hK Kc
  try simp only [List.setIfInBounds_toArray, List.set_cons_zero, List.set_cons_succ]
  refine wpAnyH_ready (rs := [16]) (by kernel_rfl) (by simp) ?_
  refine AllReadyH.cons rfl (fun Kc hK => ?_) AllReadyH.nil
  have hcp := copy_eq w6 g 1 64 64 (some ⟨b, 0, none⟩) n n n Z (by omega) hv6 (fun j hj => by have q := (hs.out.below hb6).there (1 + j) (by omega); rwa [Nat.zero_add] at q)
  go_simp
  have HT7 : Hid (Touch w (w6.setCells g 1 (cellsU8 (List.take n Z))) g 0 131) := by
    refine ((Touch.refl w g 0 131).below hb6 hs.out.lt).setCells 1 _ (by omega) ?_
    rw [cellsU8_length, List.length_take, HZl.out]
    omega
  have HS7 : Hid (SpAt (w6.setCells g 1 (cellsU8 (List.take n Z))) g h (mixK h K V mk yss.flatten) V L c) := by
    have ez : List.take n Z = Z := List.take_of_length_le (by rw [HZl.out]; exact Nat.le_refl _)
    show SpAt _ _ _ _ _ _ _
    rw [ez]
    have q := (hs.out.below hb6).setK Z (by rw [HZl.out]; omega)
    unfold mixK
    rw [← HN.out, ← HZ.out]
    exact q
  refine hK.out _ _ HT7.out (fun _ => ?_)
  clear hK Kc
  refine wpAnyH_done (by kernel_rfl) ?_ _
  refine NoPanic.normal ?_
  clear hcp hv6 hb6 hh hap hown hgrow hws howW b1 b2 hS0 H46 HOW
  generalize w6.setCells g 1 (cellsU8 (List.take n Z)) = w7 at HT7 HS7 ⊢
  have HTT7 : Hid (Tables w7) := hT.out.touch HT7.out hg
  go_wp2_with (go_at_call 41; refine (turn_ok g h (mixK h K V mk yss.flatten) V L c w7 k HS7 HTT7).mono ?_)
  first | (rintro e8 w8 rfl hs8 ht8) | (rintro e8 w8 ⟨rfl, hs8, ht8⟩)
  have HF : Hid (SpAt w8 g h (mixK h K V mk yss.flatten) (turnV h (mixK h K V mk yss.flatten) V) L c ∧ Touch w w8 g 0 131) := ⟨hs8, HT7.out.trans ht8⟩
  clear hs8 ht8
  go_wp2
  go_end0
  exact ⟨rfl, HF.out⟩
/-- The chapter's Update. -/
def updK (h : Int) (K V : Nat → Int) (ys : List Int) : Nat → Int := if ys = [] then mixK h K V 0 ys else mixK h (mixK h K V 0 ys) (turnV h (mixK h K V 0 ys) V) 1 ys
def updV (h : Int) (K V : Nat → Int) (ys : List Int) : Nat → Int := turnV h (updK h K V ys) (if ys = [] then V else turnV h (mixK h K V 0 ys) V)
theorem Parts.touch {w w' : World} {g o n : Nat} {v : Value} {yss : List (List Int)} (h : Parts w g v yss) (t : Touch w w' g o n) : Parts w' g v yss := by
  obtain ⟨a, c, e, h1, h2, h3⟩ := h
  refine ⟨a, c, e, h1, h2, ?_⟩
  rcases h3 with h3 | ⟨b, p, e2, hb, hc⟩
  · exact .inl h3
  · refine .inr ⟨b, p, e2, hb, fun i hi => ?_⟩
    obtain ⟨x, q1, q2, q3⟩ := hc i hi
    refine ⟨x, by rw [t.far (p := ⟨b, p + i, none⟩) (lt_of_cell q1) hb]; exact q1, ?_, q3⟩
    by_cases h0 : yss.getD i [] = []
    · rw [h0] at q2 ⊢
      obtain ⟨a', c', e', r1, r2, r3, r4⟩ := q2
      exact ⟨a', c', e', r1, r2, r3, .inl rfl⟩
    · exact t.view q2 (fun b' off l c' e' => .inl (q3 h0 b' off l c' e'))
theorem PL.touch {w w' : World} {g o n : Nat} {v : Value} {yss : List (List Int)} (h : PL w g v yss) (t : Touch w w' g o n) : PL w' g v yss := by
  rcases h with h | ⟨h1, h2⟩
  · exact .inl h
  · exact .inr ⟨h1, h2.touch t⟩
set_option maxHeartbeats 800000 in
set_option maxRecDepth 100000 in
/-- state.update. -/
theorem update_ok (g : Nat) (h : Int) (K V : Nat → Int) (L c : Int) (v : Value) (yss : List (List Int)) (w : World) (k : Hid (Known h)) (hs : Hid (SpAt w g h K V L c)) (hT : Hid (Tables w)) (hp : Hid (PL w g v yss)) (hl : Hid (yss.flatten.length ≤ 33554000)) (hlb : Hid ((2 + yss.length) * 24 ≤ 140737488355328)) (hg : 4 ≤ g) :
    Calls Tryd.prog 24 #[.pointer (some ⟨g, 0, none⟩), v] w fun e w' => e = .returned (.tuple #[]) ∧ SpAt w' g h (updK h K V yss.flatten) (updV h K V yss.flatten) L c ∧ Touch w w' g 0 131 := by
  obtain ⟨N, HNN⟩ : ∃ N, Hid (N = yss.flatten.length) := ⟨_, rfl⟩
  obtain ⟨ys, HY⟩ : ∃ ys, Hid (ys = yss.flatten) := ⟨_, rfl⟩
  have HM : Hid (∀ (u : World) (K V : Nat → Int) (mk : Int), SpAt u g h K V L c → Tables u → PL u g v yss → Calls Tryd.prog 40 #[.pointer (some ⟨g, 0, none⟩), .int .u8 mk, v] u fun e w' => Hid (e = .returned (.tuple #[]) ∧ SpAt w' g h (mixK h K V mk ys) (turnV h (mixK h K V mk ys) V) L c ∧ Touch u w' g 0 131)) := fun u K V mk h1 h2 h3 => by
    have q := mix_ok g h K V L c mk v yss u k h1 h2 h3 hl hlb hg
    rw [← HY.out] at q
    exact q
  have HJ : Hid (∀ u, PL u g v yss → Calls Tryd.prog 25 #[v] u fun e w' => e = .returned (.int .i64 (N : Nat)) ∧ w' = u) := fun u hu => by
    have q := joined_ok g v yss u hu.parts (by show _ ≤ _; have := hl.out; omega)
    rw [← HNN.out] at q
    exact q
  rw [← HY.out]
  go_enter Tryd.func24, Tryd.ntmps24
  go_wp2_with (go_at_call 40; refine (HM.out _ K V 0 hs.out hT.out hp.out).mono ?_)
  intro e1 w1 hh
  obtain ⟨rfl, hs1, ht1⟩ := hh.out
  have HS1 : Hid (SpAt w1 g h (mixK h K V 0 ys) (turnV h (mixK h K V 0 ys) V) L c) := hs1
  have HT1 : Hid (Touch w w1 g 0 131) := ht1
  have HP1 : Hid (PL w1 g v yss) := hp.out.touch ht1
  have HTT1 : Hid (Tables w1) := hT.out.touch ht1 hg
  clear hh hs1 ht1
  by_cases h0 : N = 0
  · subst h0
    have HE : Hid (ys = []) := List.eq_nil_of_length_eq_zero (by rw [HY.out]; exact HNN.out.symm)
    have HU : Hid (SpAt w1 g h (updK h K V ys) (updV h K V ys) L c) := by
      show SpAt _ _ _ _ _ _ _
      have q := HS1.out
      unfold updV updK
      rw [if_pos HE.out, if_pos HE.out]
      exact q
    clear HS1
    go_wp2_with (go_at_call 25; refine (HJ.out _ HP1.out).mono ?_; rintro e5 w5 ⟨rfl, hw5⟩; obtain rfl := hw5.symm)
    go_end0
    exact ⟨rfl, HU.out, HT1.out⟩
  · have h1 : (0 : Int) < (N : Nat) := by omega
    have HE : Hid (ys ≠ []) := fun e => h0 (by rw [HNN.out, ← HY.out, e]; rfl)
    go_wp2_with (first
      | (go_at_call 25; refine (HJ.out _ HP1.out).mono ?_; rintro e5 w5 ⟨rfl, hw5⟩; obtain rfl := hw5.symm)
      | (go_at_call 40; refine (HM.out _ _ _ 1 HS1.out HTT1.out HP1.out).mono ?_))
    intro e2 w2 hh
    obtain ⟨rfl, hs2, ht2⟩ := hh.out
    have HU : Hid (SpAt w2 g h (updK h K V ys) (updV h K V ys) L c) := by
      show SpAt _ _ _ _ _ _ _
      unfold updV updK
      rw [if_neg HE.out, if_neg HE.out]
      exact hs2
    have HT2 : Hid (Touch w w2 g 0 131) := HT1.out.trans ht2
    clear hh hs2 ht2 HS1
    go_wp2
    go_end0
    exact ⟨rfl, HU.out, HT2.out⟩
end Go.Proofs.YtkeklmkaleomkaaDoor
namespace Go.Proofs.YtkeklmkaleomkaaDoor
open Go.RowKit
set_option linter.unusedVariables false
set_option linter.unusedSimpArgs false
theorem parts3_alloc {u : World} (t : TypeId) (x y z : Value) (xs ys zs : List Int) (g : Nat) (hx : View u x xs) (hy : View u y ys) (hz : View u z zs) (hg : u.heap.size ≠ g) (hox : xs ≠ [] → ∀ b off l c, x = .slice (some ⟨b, off, none⟩) l c → b ≠ g) (hoy : ys ≠ [] → ∀ b off l c, y = .slice (some ⟨b, off, none⟩) l c → b ≠ g) (hoz : zs ≠ [] → ∀ b off l c, z = .slice (some ⟨b, off, none⟩) l c → b ≠ g) : Parts (u.alloc (.cells #[x, y, z] t)) g (.slice (some ⟨u.heap.size, 0, none⟩) 3 3) [xs, ys, zs] := by
  refine ⟨_, 3, rfl, by simp, by simp [maxLen], .inr ⟨u.heap.size, 0, rfl, hg, fun i hi => ?_⟩⟩
  have hi' : i < 3 := by simpa using hi
  match i, hi' with
  | 0, _ => exact ⟨x, World.cell?_alloc_at _ _ _ _ rfl, hx.kept (fun q hq => Below.heap_alloc u _ q hq), hox⟩
  | 1, _ => exact ⟨y, World.cell?_alloc_at _ _ _ _ rfl, hy.kept (fun q hq => Below.heap_alloc u _ q hq), hoy⟩
  | 2, _ => exact ⟨z, World.cell?_alloc_at _ _ _ _ rfl, hz.kept (fun q hq => Below.heap_alloc u _ q hq), hoz⟩

/-- A state's cells. -/
def stL (h : Int) (K V : Nat → Int) : List Value := .int .i64 h :: ((List.range 64).map (fun i => Value.int .u8 (K i)) ++ (List.range 64).map (fun i => Value.int .u8 (V i)))
def ones (n i : Nat) : Int := if i < n then 1 else 0
theorem stL_length (h : Int) (K V : Nat → Int) : (stL h K V).length = 129 := by simp [stL]
theorem stL_one (h : Int) (K V : Nat → Int) : (stL h K V).toArray.all (·.oneCell') = true := by kernel_rfl
theorem cells60 (h : Int) : Tryd.zeroCells60.setIfInBounds 0 (.int .i64 h) = (stL h (fun _ => 0) (fun _ => 0)).toArray := by kernel_rfl
theorem zero60 : Tryd.zeroCells60.size = 129 := by kernel_rfl
theorem size60 : (Tryd.prog.info? 60).map (·.size) = some 129 := by kernel_rfl
structure StAt (w : World) (g : Nat) (h : Int) (K V : Nat → Int) : Prop where
  hash : w.cell? ⟨g, 0, none⟩ = some (.int .i64 h)
  key : ∀ i, i < 64 → w.cell? ⟨g, 1 + i, none⟩ = some (.int .u8 (K i))
  val : ∀ i, i < 64 → w.cell? ⟨g, 65 + i, none⟩ = some (.int .u8 (V i))
  there : w.there g 0 129
theorem stL_get {h : Int} {K V : Nat → Int} (j : Nat) (v : Value) (hv : (stL h K V)[j]? = some v) : (j = 0 ∧ v = .int .i64 h) ∨ (∃ i, i < 64 ∧ j = 1 + i ∧ v = .int .u8 (K i)) ∨ (∃ i, i < 64 ∧ j = 65 + i ∧ v = .int .u8 (V i)) := by
  match j, hv with
  | 0, hv => simp [stL] at hv; exact .inl ⟨rfl, hv.symm⟩
  | j + 1, hv =>
    right
    simp only [stL, List.getElem?_cons_succ] at hv
    by_cases h1 : j < 64
    · left
      rw [List.getElem?_append_left (by simpa using h1)] at hv
      simp [List.getElem?_map, List.getElem?_range h1] at hv
      exact ⟨j, h1, by omega, hv.symm⟩
    · right
      rw [List.getElem?_append_right (by simp; omega)] at hv
      by_cases h2 : j - 64 < 64
      · simp [List.getElem?_map, List.getElem?_range h2] at hv
        exact ⟨j - 64, h2, by omega, hv.symm⟩
      · rw [List.getElem?_eq_none (by simp; omega)] at hv; cases hv
theorem StAt.range {w : World} {g : Nat} {h : Int} {K V : Nat → Int} (s : StAt w g h K V) : w.rangeAt g 0 (stL h K V) := fun j v hv => by
  rw [Nat.zero_add]
  rcases stL_get j v hv with ⟨rfl, rfl⟩ | ⟨i, hi, rfl, rfl⟩ | ⟨i, hi, rfl, rfl⟩
  · exact s.hash
  · exact s.key i hi
  · exact s.val i hi
theorem StAt.of {w : World} {g : Nat} {h : Int} {K V : Nat → Int} (hr : w.rangeAt g 0 (stL h K V)) (ht : w.there g 0 129) : StAt w g h K V := by
  refine ⟨by have q := hr 0 _ rfl; rwa [Nat.zero_add] at q, fun i hi => ?_, fun i hi => ?_, ht⟩
  · have q := hr (1 + i) (.int .u8 (K i)) (by
      rw [Nat.add_comm]
      simp only [stL, List.getElem?_cons_succ]
      rw [List.getElem?_append_left (by simpa using hi)]
      simp [List.getElem?_map, List.getElem?_range hi])
    rwa [Nat.zero_add] at q
  · have q := hr (65 + i) (.int .u8 (V i)) (by
      rw [show 65 + i = (64 + i) + 1 by omega]
      simp only [stL, List.getElem?_cons_succ]
      rw [List.getElem?_append_right (by simp)]
      simp [List.getElem?_map, List.getElem?_range hi])
    rwa [Nat.zero_add] at q
theorem StAt.put {w : World} {g : Nat} {h : Int} {K V V' : Nat → Int} (s : StAt w g h K V) (i : Nat) (hi : i < 64) (x : Int) (hx : V' i = x) (hV : ∀ j, j < 64 → j ≠ i → V' j = V j) : StAt (w.setCell ⟨g, 65 + i, none⟩ (.int .u8 x)) g h K V' := by
  refine ⟨?_, fun j hj => ?_, fun j hj => ?_, World.there_setCells s.there g (65 + i) [.int .u8 x]⟩
  · rw [World.cell?_setCell_other _ _ _ _ (by intro q; injection q with _ q2; omega)]; exact s.hash
  · rw [World.cell?_setCell_other _ _ _ _ (by intro q; injection q with _ q2; omega)]; exact s.key j hj
  · by_cases e : j = i
    · subst e
      rw [hx]
      exact World.cell?_setCell_same' _ _ _ (by rw [s.val j hj]; rfl)
    · rw [World.cell?_setCell_other _ _ _ _ (by intro q; injection q with _ q2; omega), hV j hj e]; exact s.val j hj
set_option maxHeartbeats 1600000 in
set_option maxRecDepth 100000 in
/-- firstState, of a digest that there is. -/
theorem firstState_ok (h : Int) (w : World) (k : Hid (Known h)) :
    Calls Tryd.prog 22 #[.int .i64 h] w fun e w' => e = .returned (.tuple #[.agg (stL h (fun _ => 0) (ones (szOf h))).toArray, .int .i64 0]) ∧ Below w.heap.size w w' := by
  obtain ⟨n, HN⟩ : ∃ n : Nat, Hid (n = szOf h) := ⟨_, (show _ = _ from rfl)⟩
  have hn : 1 ≤ n ∧ n ≤ 64 := by rw [HN.out]; exact szOf_pos k.out
  have hn4 : (((n : Nat) : Int) == 0) = false := by simp; omega
  have e60 := cells60 h
  obtain ⟨C, HC⟩ : ∃ C : List Value, Hid (C = stL h (fun _ => 0) (fun _ => 0)) := ⟨_, rfl⟩
  rw [← HC.out] at e60
  have HCl : Hid (C.length = 129) := by show _ = _; rw [HC.out]; exact stL_length _ _ _
  have HCs : Hid (C.toArray.size = 129) := by show _ = _; simpa using HCl.out
  have HCo : Hid (C.toArray.all (·.oneCell') = true) := by show _ = _; rw [HC.out]; exact stL_one _ _ _
  have HT : Hid (((w.alloc (.cells Tryd.zeroCells60 60)).alloc (.cells Tryd.zeroCells60 60)).there (w.heap.size + 1) 0 129 ∧ (w.alloc (.cells Tryd.zeroCells60 60)).there w.heap.size 0 129) := by
    refine ⟨?_, there_new w Tryd.zeroCells60 60 129 (by rw [zero60]; exact Nat.le_refl _)⟩
    simpa using there_new (w.alloc (.cells Tryd.zeroCells60 60)) Tryd.zeroCells60 60 129 (by rw [zero60]; exact Nat.le_refl _)
  rw [← HN.out]
  go_enter Tryd.func22, Tryd.ntmps22
  go_upto_region 5 with (first
    | (go_at_call 39; refine (size_known k.out _).mono ?_; rintro e5 w5 ⟨rfl, hw5⟩; obtain rfl := hw5.symm; rw [← HN.out])
    | (refine wpList_store_mid (by rfl) 60 (.tmp 5) (.tmp 13) (by rfl) (w.heap.size + 1) 0 C.toArray (by rfl) (by rfl) (by rw [HCs.out]; exact HT.out.1) (by rw [HCs.out]; exact size60) HCo.out ?_)
    | fail)
  have HW : Hid (Below w.heap.size w (((w.alloc (.cells Tryd.zeroCells60 60)).alloc (.cells Tryd.zeroCells60 60)).setCells (w.heap.size + 1) 0 C) ∧ (((w.alloc (.cells Tryd.zeroCells60 60)).alloc (.cells Tryd.zeroCells60 60)).setCells (w.heap.size + 1) 0 C).there w.heap.size 0 129 ∧ StAt (((w.alloc (.cells Tryd.zeroCells60 60)).alloc (.cells Tryd.zeroCells60 60)).setCells (w.heap.size + 1) 0 C) (w.heap.size + 1) h (fun _ => 0) (ones 0)) := by
    refine ⟨below_setCells _ (by omega) _ _ _ (((Below.refl _ _).alloc (Nat.le_refl _) _).alloc (by simp) _), World.there_setCells (World.there_alloc HT.out.2 _) _ _ _, StAt.of ?_ (World.there_setCells HT.out.1 _ _ _)⟩
    have q := World.rangeAt_setCells_same ((w.alloc (.cells Tryd.zeroCells60 60)).alloc (.cells Tryd.zeroCells60 60)) (w.heap.size + 1) 0 C (by rw [HCl.out]; exact HT.out.1)
    have e : stL h (fun _ => 0) (ones 0) = C := by rw [HC.out]; rfl
    rw [e]
    exact q
  generalize (((w.alloc (.cells Tryd.zeroCells60 60)).alloc (.cells Tryd.zeroCells60 60)).setCells (w.heap.size + 1) 0 C) = W at HW ⊢
  clear HT e60
  go_wp2
  go_loopw [15] (fun vi wr => ∃ i : Nat, i ≤ n ∧ vi = .int .i64 (i : Nat) ∧ Hid (Below w.heap.size w wr ∧ wr.there w.heap.size 0 129 ∧ StAt wr (w.heap.size + 1) h (fun _ => 0) (ones i))) (fun vi _ => n - (intOf vi).toNat)
  case atStart => exact ⟨0, Nat.zero_le _, rfl, HW⟩
  case round =>
    obtain ⟨i, hi, rfl, HR⟩ := hrel
    clear HW
    by_cases hlt : i < n
    · have g2 : wr.cell? ⟨w.heap.size + 1, 65 + i, none⟩ = some (.int .u8 0) := by rw [HR.out.2.2.val i (by omega)]; simp [ones]
      have g3 : wr.frozen? ⟨w.heap.size + 1, 65 + i, none⟩ = false := by have := (HR.out.2.2.there (65 + i) (by omega)).2; simpa using this
      have HX : Hid (Below w.heap.size w (wr.setCell ⟨w.heap.size + 1, 65 + i, none⟩ (.int .u8 1)) ∧ (wr.setCell ⟨w.heap.size + 1, 65 + i, none⟩ (.int .u8 1)).there w.heap.size 0 129 ∧ StAt (wr.setCell ⟨w.heap.size + 1, 65 + i, none⟩ (.int .u8 1)) (w.heap.size + 1) h (fun _ => 0) (ones (i + 1))) := by
        refine ⟨HR.out.1.setCell (p := ⟨w.heap.size + 1, 65 + i, none⟩) (by simp) _, World.there_setCells HR.out.2.1 (w.heap.size + 1) (65 + i) [.int .u8 1], HR.out.2.2.put i (by omega) 1 (by simp [ones]) (fun j _ hne => ?_)⟩
        unfold ones
        by_cases h1 : j < i
        · rw [if_pos (by omega), if_pos h1]
        · rw [if_neg (by omega), if_neg h1]
      go_wp2
      go_roundw
      case rel => exact ⟨i + 1, by omega, by go_num, HX⟩
      case measure => simp [intOf]; omega
    · obtain rfl : i = n := by omega
      obtain ⟨D, HD⟩ : ∃ D : List Value, Hid (D = stL h (fun _ => 0) (ones i)) := ⟨_, rfl⟩
      have HDl : Hid (D.length = 129) := by show _ = _; rw [HD.out]; exact stL_length _ _ _
      have HDs : Hid (D.toArray.size = 129) := by show _ = _; simpa using HDl.out
      have HDo : Hid (D.toArray.all (·.oneCell') = true) := by show _ = _; rw [HD.out]; exact stL_one _ _ _
      have HRD : Hid (wr.rangeAt (w.heap.size + 1) 0 D) := by show World.rangeAt _ _ _ _; rw [HD.out]; exact HR.out.2.2.range
      go_wp2_with (first
        | (refine wpList_load_mid (by rfl) 60 (.tmp 5) (by rfl) (w.heap.size + 1) 0 (by rfl) D _ HRD.out Tryd.underlying60 rfl (by rw [HDl.out]; exact size60) ?_)
        | (refine wpList_store_mid (by rfl) 60 (.tmp 2) (.tmp 22) (by rfl) w.heap.size 0 D.toArray (by rfl) (by rfl) (by rw [HDs.out]; exact HR.out.2.1) (by rw [HDs.out]; exact size60) HDo.out ?_)
        | fail)
      have hl := run_loadVar_mid (P := Tryd.prog) (wr.setCells w.heap.size 0 D) w.heap.size 0 60 D _ (World.rangeAt_setCells_same wr w.heap.size 0 D (by rw [HDl.out]; exact HR.out.2.1)) Tryd.underlying60 rfl (by rw [HDl.out]; exact size60)
      refine bodyPost_ret (v := .tuple #[.agg D.toArray, .int .i64 0]) ?_ rfl ⟨by rw [HD.out], below_setCells _ (Nat.le_refl _) _ _ _ HR.out.1⟩
      rw [results_cell_tmp Tryd.results22]
      simp [asAddr, hl]
end Go.Proofs.YtkeklmkaleomkaaDoor
namespace Go.Proofs.YtkeklmkaleomkaaDoor
open Go.RowKit
set_option linter.unusedVariables false
set_option linter.unusedSimpArgs false
def spL (h : Int) (K V : Nat → Int) (L c : Int) : List Value := stL h K V ++ [.int .i64 L, .int .i64 c]
theorem spL_length (h : Int) (K V : Nat → Int) (L c : Int) : (spL h K V L c).length = 131 := by simp [spL, stL_length]
theorem spL_one (h : Int) (K V : Nat → Int) (L c : Int) : (spL h K V L c).toArray.all (·.oneCell') = true := by kernel_rfl
theorem built65 (h : Int) (K V : Nat → Int) (L : Int) : Tryd.prog.built 65 [(0, .agg (stL h K V).toArray), (1, .int .i64 L)] = some (spL h K V L 0).toArray := by kernel_rfl
theorem fold65 (h : Int) (K V : Nat → Int) (L : Int) : (List.foldl (fun (cs : Array Value) x => cs.setIfInBounds x.snd x.fst) Tryd.zeroCells65 (stL h K V).zipIdx).setIfInBounds 129 (.int .i64 L) = (spL h K V L 0).toArray := by kernel_rfl
theorem fold65s (h : Int) (K V : Nat → Int) : (List.foldl (fun (cs : Array Value) x => cs.setIfInBounds x.snd x.fst) Tryd.zeroCells65 (stL h K V).zipIdx).size = 131 := by kernel_rfl
theorem size65 : (Tryd.prog.info? 65).map (·.size) = some 131 := by kernel_rfl
theorem zero65 : Tryd.zeroCells65.size = 131 := by kernel_rfl
theorem SpAt.of {w : World} {g : Nat} {h : Int} {K V : Nat → Int} {L c : Int} (hr : w.rangeAt g 0 (spL h K V L c)) (ht : w.there g 0 131) : SpAt w g h K V L c := by
  have h1 : w.rangeAt g 0 (stL h K V) := fun j v hv => hr j v (by
    have hj : j < (stL h K V).length := by
      rcases Nat.lt_or_ge j (stL h K V).length with q | q
      · exact q
      · rw [List.getElem?_eq_none q] at hv; cases hv
    rw [spL, List.getElem?_append_left hj]
    exact hv)
  have s := StAt.of h1 (fun j hj => ht j (by omega))
  refine ⟨s.hash, s.key, s.val, ?_, ?_, ht⟩
  · have q := hr 129 (.int .i64 L) (by rw [spL, List.getElem?_append_right (by rw [stL_length]; omega), stL_length]; rfl)
    rwa [Nat.zero_add] at q
  · have q := hr 130 (.int .i64 c) (by rw [spL, List.getElem?_append_right (by rw [stL_length]; omega), stL_length]; rfl)
    rwa [Nat.zero_add] at q
theorem SpAt.range {w : World} {g : Nat} {h : Int} {K V : Nat → Int} {L c : Int} (s : SpAt w g h K V L c) : w.rangeAt g 0 (spL h K V L c) := fun j v hv => by
  have st : StAt w g h K V := ⟨s.hash, s.key, s.val, fun j hj => s.there j (by omega)⟩
  by_cases hj : j < 129
  · rw [spL, List.getElem?_append_left (by rw [stL_length]; exact hj)] at hv
    exact st.range j v hv
  · rw [spL, List.getElem?_append_right (by rw [stL_length]; omega), stL_length] at hv
    rw [Nat.zero_add]
    match hq : j - 129, hv with
    | 0, hv =>
      obtain rfl : j = 129 := by omega
      simp at hv
      rw [← hv]
      exact s.lim
    | 1, hv =>
      obtain rfl : j = 130 := by omega
      simp at hv
      rw [← hv]
      exact s.cnt
    | q + 2, hv => simp at hv
set_option maxHeartbeats 400000 in
theorem feeds_ok (a : Option Addr) (n c : Nat) (w : World) (h1 : 16 ≤ n) (h2 : n ≤ 65536) : Calls Tryd.prog 23 #[.slice a n c] w fun e w' => e = .returned (.bool true) ∧ w' = w := by
  have d1 : (16 : Int) ≤ (n : Nat) := by omega
  have d2 : ((n : Nat) : Int) ≤ 65536 := by omega
  go_enter Tryd.func23, Tryd.ntmps23
  go_wp2
  go_ret
  exact ⟨rfl, rfl⟩
set_option maxHeartbeats 1600000 in
set_option maxRecDepth 100000 in
/-- Copy. -/
theorem spcopy (g : Nat) (h : Int) (K V : Nat → Int) (L c : Int) (w : World) (hs : Hid (SpAt w g h K V L c)) :
    Calls Tryd.prog 11 #[.pointer (some ⟨g, 0, none⟩)] w fun e w' => ∃ g', e = .returned (.pointer (some ⟨g', 0, none⟩)) ∧ w.heap.size ≤ g' ∧ SpAt w' g' h K V L c ∧ Below w.heap.size w w' := by
  obtain ⟨C, HC⟩ : ∃ C : List Value, Hid (C = spL h K V L c) := ⟨_, rfl⟩
  have HCl : Hid (C.length = 131) := by show _ = _; rw [HC.out]; exact spL_length _ _ _ _ _
  have HCs : Hid (C.toArray.size = 131) := by show _ = _; simpa using HCl.out
  have HCo : Hid (C.toArray.all (·.oneCell') = true) := by show _ = _; rw [HC.out]; exact spL_one _ _ _ _ _
  have HR : Hid (w.rangeAt g 0 C) := by show World.rangeAt _ _ _ _; rw [HC.out]; exact hs.out.range
  have HX : Hid ((w.alloc (.cells Tryd.zeroCells65 65)).there w.heap.size 0 131) := there_new w Tryd.zeroCells65 65 131 (by rw [zero65]; exact Nat.le_refl _)
  go_enter Tryd.func11, Tryd.ntmps11
  go_upto_region 4 with (first
    | (refine wpList_load_mid (by rfl) 65 (.tmp 7) (by rfl) g 0 (by rfl) C _ HR.out Tryd.underlying65 rfl (by rw [HCl.out]; exact size65) ?_)
    | (refine wpList_store_mid (by rfl) 65 (.tmp 3) (.tmp 8) (by rfl) w.heap.size 0 C.toArray (by rfl) (by rfl) (by rw [HCs.out]; exact HX.out) (by rw [HCs.out]; exact size65) HCo.out ?_)
    | fail)
  have HF : Hid (SpAt ((w.alloc (.cells Tryd.zeroCells65 65)).setCells w.heap.size 0 C) w.heap.size h K V L c ∧ Below w.heap.size w ((w.alloc (.cells Tryd.zeroCells65 65)).setCells w.heap.size 0 C)) := by
    refine ⟨SpAt.of ?_ (World.there_setCells HX.out _ _ _), below_setCells _ (Nat.le_refl _) _ _ _ ((Below.refl _ _).alloc (Nat.le_refl _) _)⟩
    rw [← HC.out]
    exact World.rangeAt_setCells_same _ _ _ _ (by rw [HCl.out]; exact HX.out)
  generalize (w.alloc (.cells Tryd.zeroCells65 65)).setCells w.heap.size 0 C = w2 at HF ⊢
  go_wp2
  go_ret
  exact ⟨w.heap.size, rfl, Nat.le_refl _, HF.out.1, HF.out.2⟩
set_option maxHeartbeats 1600000 in
set_option maxRecDepth 100000 in
/-- New, of what must be taken. -/
theorem spnew (h L : Int) (ea na pa : Option Addr) (en ec nn nc pn pc : Nat) (E N P : List Int) (w : World) (k : Hid (Known h)) (hT : Hid (Tables w)) (hL1 : 1 ≤ L) (hL2 : L ≤ 16777216) (he : Hid (View w (.slice ea en ec) E)) (hel : Hid (E.length = en)) (hn : Hid (View w (.slice na nn nc) N)) (hnl : Hid (N.length = nn)) (hp : Hid (View w (.slice pa pn pc) P)) (hpl : Hid (P.length = pn)) (he1 : 16 ≤ en) (he2 : en ≤ 65536) (hn2 : nn ≤ 65536) (hp2 : pn ≤ 65536) :
    Calls Tryd.prog 9 #[.int .i64 h, .int .i64 L, .slice ea en ec, .slice na nn nc, .slice pa pn pc] w fun e w' => ∃ g, e = .returned (.tuple #[.pointer (some ⟨g, 0, none⟩), .int .i64 0]) ∧ w.heap.size ≤ g ∧ SpAt w' g h (updK h (fun _ => 0) (ones (szOf h)) (E ++ (N ++ P))) (updV h (fun _ => 0) (ones (szOf h)) (E ++ (N ++ P))) L 0 ∧ Below w.heap.size w w' := by
  have d1 : ¬ (65536 : Int) < (nn : Nat) := by omega
  have d2 : ¬ (65536 : Int) < (pn : Nat) := by omega
  have d3 : ¬ L < 1 := by omega
  have d4 : ¬ 16777216 < L := by omega
  have hT4 := hT.out.size
  obtain ⟨V, HV⟩ : ∃ V, Hid (V = ones (szOf h)) := ⟨_, rfl⟩
  obtain ⟨C, HC⟩ : ∃ C : List Value, Hid (C = stL h (fun _ => 0) V) := ⟨_, rfl⟩
  have HCl : Hid (C.length = 129) := by show _ = _; rw [HC.out]; exact stL_length _ _ _
  have HCs : Hid (C.toArray.size = 129) := by show _ = _; simpa using HCl.out
  have HCo : Hid (C.toArray.all (·.oneCell') = true) := by show _ = _; rw [HC.out]; exact stL_one _ _ _
  have H22 : Hid (Calls Tryd.prog 22 #[.int .i64 h] w fun e w' => Hid (e = .returned (.tuple #[.agg C.toArray, .int .i64 0]) ∧ Below w.heap.size w w')) := by
    have q := firstState_ok h w k
    rw [← HV.out, ← HC.out] at q
    exact q
  go_enter Tryd.func9, Tryd.ntmps9
  go_wp2_with (go_at_call 22; refine H22.out.mono ?_)
  intro e1 w1 hh
  obtain ⟨rfl, hb1⟩ := hh.out
  have HB1 : Hid (Below w.heap.size w w1) := hb1
  have HX1 : Hid ((w1.alloc (.cells Tryd.zeroCells60 60)).there w1.heap.size 0 129) := there_new w1 Tryd.zeroCells60 60 129 (by rw [zero60]; exact Nat.le_refl _)
  clear hh hb1 H22
  go_upto_region 2 with (first
    | (refine wpList_store_mid (by rfl) 60 (.tmp 12) (.tmp 18) (by rfl) w1.heap.size 0 C.toArray (by rfl) (by rfl) (by rw [HCs.out]; exact HX1.out) (by rw [HCs.out]; exact size60) HCo.out ?_)
    | fail)
  have HW2 : Hid (Below w.heap.size w ((w1.alloc (.cells Tryd.zeroCells60 60)).setCells w1.heap.size 0 C) ∧ ((w1.alloc (.cells Tryd.zeroCells60 60)).setCells w1.heap.size 0 C).rangeAt w1.heap.size 0 C) := ⟨below_setCells _ HB1.out.size _ _ _ (HB1.out.alloc HB1.out.size _), World.rangeAt_setCells_same _ _ _ _ (by rw [HCl.out]; exact HX1.out)⟩
  generalize (w1.alloc (.cells Tryd.zeroCells60 60)).setCells w1.heap.size 0 C = w2 at HW2 ⊢
  clear HX1
  obtain ⟨D, HD⟩ : ∃ D : List Value, Hid (D = spL h (fun _ => 0) V L 0) := ⟨_, rfl⟩
  have e65 : (List.foldl (fun (cs : Array Value) x => cs.setIfInBounds x.snd x.fst) Tryd.zeroCells65 C.zipIdx).setIfInBounds 129 (.int .i64 L) = D.toArray := by rw [HC.out, HD.out]; exact fold65 h _ V L
  have e65s : (List.foldl (fun (cs : Array Value) x => cs.setIfInBounds x.snd x.fst) Tryd.zeroCells65 C.zipIdx).size = 131 := by rw [HC.out]; exact fold65s h _ V
  have q1 : decide (L < 1) = false := by simp; omega
  have q2 : decide (16777216 < L) = false := by simp; omega
  have q3 : decide ((65536 : Int) < (nn : Nat)) = false := by simp; omega
  have q4 : decide ((65536 : Int) < (pn : Nat)) = false := by simp; omega
  go_upto_region 10 with (go_at_call 23; refine (feeds_ok ea en ec _ he1 he2).mono ?_; rintro e5 w5 ⟨rfl, hw5⟩; obtain rfl := hw5.symm)
  have hCl : C.length = 129 := HCl.out
  go_upto_region 11 with (first
    | (refine wpList_load_mid (by rfl) 60 (.tmp 12) (by rfl) w1.heap.size 0 (by rfl) C _ HW2.out.2 Tryd.underlying60 rfl (by rw [HCl.out]; exact size60) ?_)
    | fail)
  clear hCl
  have HDl : Hid (D.length = 131) := by show _ = _; rw [HD.out]; exact spL_length _ _ _ _ _
  have HW3 : Hid (Below w.heap.size w (w2.alloc (.cells D.toArray 65)) ∧ (w2.alloc (.cells D.toArray 65)).heap.size = w2.heap.size + 1 ∧ SpAt (w2.alloc (.cells D.toArray 65)) w2.heap.size h (fun _ => 0) V L 0) := by
    refine ⟨HW2.out.1.alloc HW2.out.1.size _, size_alloc1 _ _, SpAt.of ?_ (there_new w2 D.toArray 65 131 (by rw [show D.toArray.size = 131 by simpa using HDl.out]; exact Nat.le_refl _))⟩
    have q := rangeAt_new w2 D.toArray 65
    rw [← HD.out]
    exact q
  generalize w2.alloc (.cells D.toArray 65) = w3 at HW3 ⊢
  have hg2 : 4 ≤ w2.heap.size := Nat.le_trans hT4 HW2.out.1.size
  have HU : Hid (∀ t, Calls Tryd.prog 24 #[.pointer (some ⟨w2.heap.size, 0, none⟩), .slice (some ⟨w3.heap.size, 0, none⟩) 3 3] (w3.alloc (.cells #[.slice ea en ec, .slice na nn nc, .slice pa pn pc] t)) fun e w' => Hid (e = .returned (.tuple #[]) ∧ SpAt w' w2.heap.size h (updK h (fun _ => 0) V (E ++ (N ++ P))) (updV h (fun _ => 0) V (E ++ (N ++ P))) L 0 ∧ Below w.heap.size w w')) := by
    intro t
    have b4 := below_alloc1 w3 (.cells #[.slice ea en ec, .slice na nn nc, .slice pa pn pc] t)
    have b04 := HW3.out.1.trans (b4.mono HW3.out.1.size)
    have hsz := HW2.out.1.size
    have hpt := parts3_alloc (u := w3) t _ _ _ E N P w2.heap.size (he.out.kept (fun q hq => HW3.out.1.block q hq)) (hn.out.kept (fun q hq => HW3.out.1.block q hq)) (hp.out.kept (fun q hq => HW3.out.1.block q hq)) (by have := HW3.out.2.1; omega) (fun h0 b off l c e => by have := view_lt he.out h0 b off l c e; omega) (fun h0 b off l c e => by have := view_lt hn.out h0 b off l c e; omega) (fun h0 b off l c e => by have := view_lt hp.out h0 b off l c e; omega)
    have q := update_ok w2.heap.size h (fun _ => 0) V L 0 (.slice (some ⟨w3.heap.size, 0, none⟩) 3 3) [E, N, P] (w3.alloc (.cells #[.slice ea en ec, .slice na nn nc, .slice pa pn pc] t)) k (HW3.out.2.2.below b4) (hT.out.below b04 hT4) (.inr ⟨⟨_, _, _, rfl⟩, hpt⟩) (by show _ ≤ _; have h1 := hel.out; have h2 := hnl.out; have h3 := hpl.out; simp; omega) (by show (2 + 3) * 24 ≤ 140737488355328; decide) hg2
    have ef : ([E, N, P] : List (List Int)).flatten = E ++ (N ++ P) := by simp
    rw [ef] at q
    refine q.mono ?_
    rintro e w' ⟨r1, r2, r3⟩
    exact ⟨r1, r2, b04.trans (r3.toBelow hsz b04.size)⟩
  clear e65 e65s
  go_wp2_with (go_at_call 24; refine (HU.out _).mono ?_)
  intro e4 w4 hh
  obtain ⟨rfl, hs4, hb4⟩ := hh.out
  rw [HV.out] at hs4
  have HF : Hid (SpAt w4 w2.heap.size h (updK h (fun _ => 0) (ones (szOf h)) (E ++ (N ++ P))) (updV h (fun _ => 0) (ones (szOf h)) (E ++ (N ++ P))) L 0 ∧ Below w.heap.size w w4) := ⟨hs4, hb4⟩
  clear hh hs4 hb4 HU
  go_wp2
  go_ret2
  exact ⟨_, rfl, HW2.out.1.size, HF.out.1, HF.out.2⟩
end Go.Proofs.YtkeklmkaleomkaaDoor
namespace Go.Proofs.YtkeklmkaleomkaaDoor
open Go.RowKit
set_option linter.unusedVariables false
set_option linter.unusedSimpArgs false
/-- V, turned so often. -/
def vq (h : Int) (K V : Nat → Int) : Nat → Nat → Int
  | 0 => V
  | j + 1 => turnV h K (vq h K V j)
/-- The bytes that are given. -/
def gv (h : Int) (K V : Nat → Int) (i : Nat) : Int := vq h K V (i / szOf h + 1) (i % szOf h)
structure OutAt (w : World) (b n : Nat) (F : Nat → Int) : Prop where
  cells : ∀ i, i < n → w.cell? ⟨b, i, none⟩ = some (.int .u8 (F i))
  there : w.there b 0 n
  lt : b < w.heap.size
theorem OutAt.touch {w v : World} {b n g o m : Nat} {F : Nat → Int} (h : OutAt w b n F) (t : Touch w v g o m) (hne : b ≠ g) : OutAt v b n F :=
  ⟨fun i hi => by rw [t.far (p := ⟨b, i, none⟩) h.lt hne]; exact h.cells i hi, t.thereFar h.there h.lt hne, Nat.lt_of_lt_of_le h.lt t.size⟩
theorem OutAt.lay {w : World} {b n at_ kk : Nat} {F G : Nat → Int} (h : OutAt w b n F) (z : List Int) (hz : z.length = kk) (hk : at_ + kk ≤ n) (h1 : ∀ i, i < n → i < at_ ∨ at_ + kk ≤ i → G i = F i) (h2 : ∀ i, i < kk → G (at_ + i) = z.getD i 0) : OutAt (w.setCells b at_ (cellsU8 z)) b n G := by
  have hl : (cellsU8 z).length = z.length := cellsU8_length z
  refine ⟨fun i hi => ?_, World.there_setCells h.there _ _ _, by rw [size_setCells]; exact h.lt⟩
  by_cases hc : i < at_ ∨ at_ + kk ≤ i
  · rw [World.cell?_setCells_out b _ at_ w ⟨b, i, none⟩ (fun _ _ => by rw [hl, hz]; exact hc), h1 i hi hc]
    exact h.cells i hi
  · obtain ⟨r, rfl⟩ : ∃ r, i = at_ + r := ⟨i - at_, by omega⟩
    rw [h2 r (by omega)]
    have hth : w.there b at_ (cellsU8 z).length := fun j hj => by
      have q := h.there (at_ + j) (by rw [hl, hz] at hj; omega)
      rwa [Nat.zero_add] at q
    exact World.rangeAt_setCells_same w b at_ (cellsU8 z) hth r _ (cellU8_at (by omega))
theorem OutAt.view {w : World} {b n : Nat} {F : Nat → Int} (h : OutAt w b n F) (hn : n ≤ 65536) : View w (.slice (some ⟨b, 0, none⟩) n n) (fL F n) := by
  refine ⟨_, n, by rw [fL_length], by rw [fL_length]; exact Nat.le_refl _, by unfold maxLen; omega, (fun e => by cases e), .inr ⟨b, 0, rfl, fun i hi => ?_⟩⟩
  rw [fL_length] at hi
  rw [fL_get F n i hi, Nat.zero_add]
  exact h.cells i hi
theorem gv_at {h : Int} (k : Known h) (K V : Nat → Int) (q i : Nat) (hi : i < szOf h) : gv h K V (q * szOf h + i) = vq h K V (q + 1) i := by
  have hs := szOf_pos k
  have e1 : (q * szOf h + i) / szOf h = q := by rw [Nat.mul_comm, Nat.mul_add_div (by omega), Nat.div_eq_of_lt hi, Nat.add_zero]
  have e2 : (q * szOf h + i) % szOf h = i := by rw [Nat.mul_comm, Nat.mul_add_mod, Nat.mod_eq_of_lt hi]
  unfold gv
  rw [e1, e2]
theorem made_get (n i : Nat) (hi : i < n) : ((madeCells #[Value.int .u8 0] n).toList)[i]? = some (.int .u8 0) := by
  simp [madeCells, hi, Nat.mod_one]
theorem ceil_eq (n sz q : Nat) (hs : 1 ≤ sz) (h1 : n ≤ q * sz) (h2 : q = 0 ∨ (q - 1) * sz < n) : (n + sz - 1) / sz = q := by
  rcases h2 with rfl | h2
  · rw [Nat.zero_mul] at h1
    rw [Nat.div_eq_of_lt (by omega)]
  · obtain ⟨p, rfl⟩ : ∃ p, q = p + 1 := ⟨q - 1, by
      rcases Nat.eq_zero_or_pos q with e | e
      · subst e; omega
      · omega⟩
    rw [Nat.add_sub_cancel] at h2
    rw [Nat.succ_mul] at h1
    refine Nat.div_eq_of_lt_le ?_ ?_
    · rw [Nat.succ_mul]; omega
    · rw [Nat.succ_mul, Nat.succ_mul]; omega
set_option maxHeartbeats 3200000 in
set_option maxRecDepth 100000 in
/-- state.give. -/
theorem give_ok (g : Nat) (dg : Int) (K V : Nat → Int) (L c : Int) (n : Nat) (w : World) (k : Hid (Known dg)) (hs : Hid (SpAt w g dg K V L c)) (hT : Hid (Tables w)) (hg : 4 ≤ g) (hn : n ≤ 65536) :
    Calls Tryd.prog 26 #[.pointer (some ⟨g, 0, none⟩), .int .i64 (n : Nat)] w fun e w' => ∃ b, e = .returned (.slice (some ⟨b, 0, none⟩) n n) ∧ w.heap.size ≤ b ∧ View w' (.slice (some ⟨b, 0, none⟩) n n) (fL (gv dg K V) n) ∧ SpAt w' g dg K (vq dg K V ((n + szOf dg - 1) / szOf dg)) L c ∧ Touch w w' g 0 131 := by
  obtain ⟨sz, HSZ⟩ : ∃ n : Nat, Hid (n = szOf dg) := ⟨_, (show _ = _ from rfl)⟩
  have hsz : 1 ≤ sz ∧ sz ≤ 64 := by rw [HSZ.out]; exact szOf_pos k.out
  obtain ⟨i0, hi0, hz0, hz1, hz2⟩ := info_parts Tryd.info5
  have HGW : Hid (g < w.heap.size) := hs.out.lt
  go_enter Tryd.func26, Tryd.ntmps26
  go_wp2_with (first
    | (at_make; go_must (refine wpList_make_full _ rfl _ _ 22 rfl w.heap.size 5 i0 (.int .u8 0) 1 Tryd.underlying22 hi0 hz0 hz1 .i64 .i64 (n : Nat) (n : Nat) n rfl rfl rfl rfl ?_ ?_ ?_ ?_)))
  · rw [hz2]; omega
  · unfold maxLen; omega
  · exact Nat.le_refl _
  intro w1 hown hgrow
  have hb1 : Below w.heap.size w w1 := (Below.refl _ _).grown hgrow (Nat.le_refl _) (by intro k hk; cases hk)
  have HO1 : Hid (OutAt w1 w.heap.size n (fun i => if i < 0 then gv dg K V i else 0)) := by
    have hth : ∀ j, j < n → w1.cell? ⟨w.heap.size, j, none⟩ = some (.int .u8 0) := fun j hj => by
      rw [hown.cellAt j (by omega)]
      exact made_get n j hj
    refine ⟨fun i hi => by rw [hth i hi]; simp, fun j hj => ?_, (hown.lt _ rfl).2⟩
    rw [Nat.zero_add]
    exact ⟨by rw [hth j hj]; rfl, hown.frozenAt j⟩
  have HT1 : Hid (Touch w w1 g 0 131) := (Touch.refl w g 0 131).below hb1 HGW.out
  have HS1 : Hid (SpAt w1 g dg K (vq dg K V 0) L c) := hs.out.below hb1
  clear hown hgrow hb1
  go_wp2
  go_loopw [6] (fun vi wr => ∃ q at_ : Nat, vi = .int .i64 (at_ : Nat) ∧ at_ ≤ 65600 ∧ Hid (at_ = q * sz) ∧ Hid (q = 0 ∨ (q - 1) * sz < n) ∧ Hid (Touch w wr g 0 131 ∧ SpAt wr g dg K (vq dg K V q) L c ∧ OutAt wr w.heap.size n (fun i => if i < at_ then gv dg K V i else 0))) (fun vi _ => n - (intOf vi).toNat)
  case atStart => exact ⟨0, 0, rfl, by omega, (by show 0 = _; rw [Nat.zero_mul]), .inl rfl, HT1.out, HS1.out, HO1.out⟩
  case round =>
    obtain ⟨q, at_, rfl, hat, HA, HQ, HR⟩ := hrel
    clear HO1 HT1 HS1
    by_cases hlt : (at_ : Int) < (n : Nat)
    · have HTT : Hid (Tables wr) := hT.out.touch HR.out.1 hg
      have HSr : Hid (SpAt wr g dg K (vq dg K V q) L c) := HR.out.2.1
      go_upto_region 6 with (go_at_call 41; refine (turn_ok g dg K (vq dg K V q) L c wr k HSr HTT).mono ?_; rintro e2 w2 ⟨rfl, hs2, ht2⟩)
      have HS2 : Hid (SpAt w2 g dg K (vq dg K V (q + 1)) L c) := hs2
      have HT2 : Hid (Touch w w2 g 0 131) := HR.out.1.trans ht2
      have HO2 : Hid (OutAt w2 w.heap.size n (fun i => if i < at_ then gv dg K V i else 0)) := HR.out.2.2.touch ht2 (by have := HGW.out; omega)
      clear hs2 ht2 HSr HR HTT
      obtain ⟨kk, hkk⟩ : ∃ kk, kk = min sz (n - at_) := ⟨_, rfl⟩
      have c0 : w2.cell? ⟨g, 0, none⟩ = some (.int .i64 dg) := HS2.out.hash
      have hat1 : (at_ : Int) ≤ (n : Nat) := by omega
      have hsz1 : ((sz : Nat) : Int) ≤ 64 := by omega
      have hsz0 : (0 : Int) ≤ ((sz : Nat) : Int) := by omega
      have hcp := copy_eq w2.drew w.heap.size at_ (n - at_) (n - at_) (some ⟨g, 65, none⟩) sz 64 kk (fL (vq dg K V (q + 1)) sz) hkk ((Sm.refl w2).drew.view (HS2.out.viewV sz (by omega))) (fun j hj => by
        have q := HO2.out.there (at_ + j) (by omega)
        rwa [Nat.zero_add] at q)
      have HX : Hid (Touch w (w2.drew.setCells w.heap.size at_ (cellsU8 (List.take kk (fL (vq dg K V (q + 1)) sz)))) g 0 131 ∧ SpAt (w2.drew.setCells w.heap.size at_ (cellsU8 (List.take kk (fL (vq dg K V (q + 1)) sz)))) g dg K (vq dg K V (q + 1)) L c ∧ OutAt (w2.drew.setCells w.heap.size at_ (cellsU8 (List.take kk (fL (vq dg K V (q + 1)) sz)))) w.heap.size n (fun i => if i < at_ + sz then gv dg K V i else 0) ∧ Hid (at_ + sz = (q + 1) * sz) ∧ Hid (q + 1 = 0 ∨ (q + 1 - 1) * sz < n)) := by
        have hgw := HGW.out
        refine ⟨touch_new HT2.out.drew (Nat.le_refl _) _ _ hgw, ?_, ?_, (by show _ = _; rw [Nat.succ_mul, HA.out]), .inr (by rw [Nat.add_sub_cancel, ← HA.out]; omega)⟩
        · have s0 : SpAt w2.drew g dg K (vq dg K V (q + 1)) L c := ⟨HS2.out.hash, HS2.out.key, HS2.out.val, HS2.out.lim, HS2.out.cnt, HS2.out.there⟩
          have hc : ∀ j, (w2.drew.setCells w.heap.size at_ (cellsU8 (List.take kk (fL (vq dg K V (q + 1)) sz)))).cell? ⟨g, j, none⟩ = w2.drew.cell? ⟨g, j, none⟩ := fun j => World.cell?_setCells_out _ _ _ _ ⟨g, j, none⟩ (fun e => by have e' : g = w.heap.size := e; omega)
          exact ⟨by rw [hc]; exact s0.hash, fun i hi => by rw [hc]; exact s0.key i hi, fun i hi => by rw [hc]; exact s0.val i hi, by rw [hc]; exact s0.lim, by rw [hc]; exact s0.cnt, World.there_setCells s0.there _ _ _⟩
        · have o0 : OutAt w2.drew w.heap.size n (fun i => if i < at_ then gv dg K V i else 0) := ⟨HO2.out.cells, HO2.out.there, HO2.out.lt⟩
          refine o0.lay (kk := kk) _ (by rw [List.length_take, fL_length]; omega) (by omega) (fun i hi hc => ?_) (fun i hi => ?_)
          · by_cases h1 : i < at_
            · rw [if_pos h1, if_pos (by omega)]
            · rw [if_neg h1, if_neg (by omega)]
          · rw [if_pos (by omega), HA.out, HSZ.out, gv_at k.out K V q i (by rw [← HSZ.out]; omega), fL_take _ _ _ (by rw [← HSZ.out]; omega), fL_get _ _ _ hi]
      clear HO2 HT2 HA HQ
      have HKK : Hid (kk = min sz (n - at_)) := hkk
      clear hkk
      go_region_with (go_at_call 39; refine (size_known k.out _).mono ?_; rintro e5 w5 ⟨rfl, hw5⟩; obtain rfl := hw5.symm; rw [← HSZ.out])
      clear hcp c0
      generalize w2.drew.setCells w.heap.size at_ (cellsU8 (List.take kk (fL (vq dg K V (q + 1)) sz))) = w3 at HX ⊢
      have c0 : w3.cell? ⟨g, 0, none⟩ = some (.int .i64 dg) := HX.out.2.1.hash
      go_wp2_with (go_at_call 39; refine (size_known k.out _).mono ?_; rintro e5 w5 ⟨rfl, hw5⟩; obtain rfl := hw5.symm; rw [← HSZ.out])
      go_roundw
      case rel => exact ⟨q + 1, at_ + sz, by go_num, by omega, HX.out.2.2.2.1, HX.out.2.2.2.2, HX.out.1, HX.out.2.1, HX.out.2.2.1⟩
      case measure => simp [intOf]; omega
    · have HF : Hid (View wr (.slice (some ⟨w.heap.size, 0, none⟩) n n) (fL (gv dg K V) n) ∧ SpAt wr g dg K (vq dg K V ((n + szOf dg - 1) / szOf dg)) L c ∧ Touch w wr g 0 131) := by
        refine ⟨?_, ?_, HR.out.1⟩
        · have q1 : OutAt wr w.heap.size n (gv dg K V) := ⟨fun i hi => by rw [HR.out.2.2.cells i hi, if_pos (by omega)], HR.out.2.2.there, HR.out.2.2.lt⟩
          exact q1.view hn
        · rw [← HSZ.out, ceil_eq n sz q hsz.1 (by have := HA.out; omega) HQ.out]
          exact HR.out.2.1
      clear HR HA HQ
      go_wp2
      go_ret
      exact ⟨w.heap.size, rfl, Nat.le_refl _, HF.out⟩
end Go.Proofs.YtkeklmkaleomkaaDoor
namespace Go.Proofs.YtkeklmkaleomkaaDoor
open Go.RowKit
set_option linter.unusedVariables false
set_option linter.unusedSimpArgs false
/-- The state ahead of a draw, with what is handed in. -/
def preK (d : Int) (K V : Nat → Int) (ys : List Int) : Nat → Int := if ys = [] then K else updK d K V ys
def preV (d : Int) (K V : Nat → Int) (ys : List Int) : Nat → Int := if ys = [] then V else updV d K V ys
/-- The state behind it. -/
def drV0 (d : Int) (K V : Nat → Int) (ys : List Int) (n : Nat) : Nat → Int := vq d (preK d K V ys) (preV d K V ys) ((n + szOf d - 1) / szOf d)
def drK (d : Int) (K V : Nat → Int) (ys : List Int) (n : Nat) : Nat → Int := updK d (preK d K V ys) (drV0 d K V ys n) ys
def drV (d : Int) (K V : Nat → Int) (ys : List Int) (n : Nat) : Nat → Int := updV d (preK d K V ys) (drV0 d K V ys n) ys
def drO (d : Int) (K V : Nat → Int) (ys : List Int) : Nat → Int := gv d (preK d K V ys) (preV d K V ys)
theorem SpAt.setC {w : World} {g : Nat} {h : Int} {K V : Nat → Int} {L c : Int} (s : SpAt w g h K V L c) (x : Int) : SpAt (w.setCell ⟨g, 130, none⟩ (.int .i64 x)) g h K V L x := by
  have out : ∀ j, j ≠ 130 → (w.setCell ⟨g, 130, none⟩ (.int .i64 x)).cell? ⟨g, j, none⟩ = w.cell? ⟨g, j, none⟩ := fun j hj => World.cell?_setCell_other _ _ _ _ (by intro q; injection q with _ q2; omega)
  exact ⟨by rw [out 0 (by omega)]; exact s.hash, fun i hi => by rw [out _ (by omega)]; exact s.key i hi, fun i hi => by rw [out _ (by omega)]; exact s.val i hi, by rw [out _ (by omega)]; exact s.lim, World.cell?_setCell_same' _ _ _ (by rw [s.cnt]; rfl), World.there_setCells s.there g 130 [.int .i64 x]⟩
set_option maxHeartbeats 3200000 in
set_option maxRecDepth 100000 in
/-- Draw, of what must be given. -/
theorem spdraw (g : Nat) (dg : Int) (K V : Nat → Int) (L c : Int) (n : Nat) (v : Value) (yss : List (List Int)) (w : World) (k : Hid (Known dg)) (hs : Hid (SpAt w g dg K V L c)) (hT : Hid (Tables w)) (hp : Hid (PL w g v yss)) (hl : Hid (yss.flatten.length ≤ 65536)) (hlb : Hid ((2 + yss.length) * 24 ≤ 140737488355328)) (hg : 4 ≤ g) (hn : n ≤ 65536) (hc : c ≠ L) (hc0 : 0 ≤ c) (hc1 : c ≤ 16777216) :
    Calls Tryd.prog 12 #[.pointer (some ⟨g, 0, none⟩), .int .i64 (n : Nat), v] w fun e w' => ∃ b, e = .returned (.tuple #[.slice (some ⟨b, 0, none⟩) n n, .int .i64 0]) ∧ w.heap.size ≤ b ∧ View w' (.slice (some ⟨b, 0, none⟩) n n) (fL (drO dg K V yss.flatten) n) ∧ SpAt w' g dg (drK dg K V yss.flatten n) (drV dg K V yss.flatten n) L (c + 1) ∧ Touch w w' g 0 131 := by
  obtain ⟨N, HNN⟩ : ∃ N, Hid (N = yss.flatten.length) := ⟨_, rfl⟩
  obtain ⟨ys, HY⟩ : ∃ ys, Hid (ys = yss.flatten) := ⟨_, rfl⟩
  have hN : N ≤ 65536 := by rw [HNN.out]; exact hl.out
  have HGW : Hid (g < w.heap.size) := hs.out.lt
  have HJ : Hid (∀ u, PL u g v yss → Calls Tryd.prog 25 #[v] u fun e w' => e = .returned (.int .i64 (N : Nat)) ∧ w' = u) := fun u hu => by
    have q := joined_ok g v yss u hu.parts (by show _ ≤ _; have := hl.out; omega)
    rw [← HNN.out] at q
    exact q
  have HU : Hid (∀ (u : World) (K V : Nat → Int), SpAt u g dg K V L c → Tables u → PL u g v yss → Calls Tryd.prog 24 #[.pointer (some ⟨g, 0, none⟩), v] u fun e w' => Hid (e = .returned (.tuple #[]) ∧ SpAt w' g dg (updK dg K V ys) (updV dg K V ys) L c ∧ Touch u w' g 0 131)) := fun u K V h1 h2 h3 => by
    have q := update_ok g dg K V L c v yss u k h1 h2 h3 (by show _ ≤ _; have := hl.out; omega) hlb hg
    rw [← HY.out] at q
    exact q
  have c1 : w.cell? ⟨g, 129, none⟩ = some (.int .i64 L) := hs.out.lim
  have c2 : w.cell? ⟨g, 130, none⟩ = some (.int .i64 c) := hs.out.cnt
  have hcb : (c == L) = false := by simpa using hc
  have d1 : decide ((65536 : Int) < (n : Nat)) = false := by simp; omega
  have d2 : decide ((65536 : Int) < (N : Nat)) = false := by simp; omega
  have d3 : ¬ ((n : Nat) : Int) < 0 := by omega
  rw [← HY.out]
  go_enter Tryd.func12, Tryd.ntmps12
  go_upto_region 7 with (go_at_call 25; refine (HJ.out _ hp.out).mono ?_; rintro e5 w5 ⟨rfl, hw5⟩; obtain rfl := hw5.symm)
  go_quiet (fail)
  have HSw : Hid (SpAt (w.drewN nq) g dg K V L c) := ⟨hs.out.hash, hs.out.key, hs.out.val, hs.out.lim, hs.out.cnt, hs.out.there⟩
  have HTw : Hid (Touch w (w.drewN nq) g 0 131) := (Touch.refl w g 0 131).drewN nq
  generalize w.drewN nq = wd at HSw HTw ⊢
  have HTTw : Hid (Tables wd) := hT.out.touch HTw.out hg
  have HPw : Hid (PL wd g v yss) := hp.out.touch HTw.out
  obtain ⟨K1, HK1⟩ : ∃ K1, Hid (K1 = preK dg K V ys) := ⟨_, rfl⟩
  obtain ⟨V1, HV1⟩ : ∃ V1, Hid (V1 = preV dg K V ys) := ⟨_, rfl⟩
  clear c1 c2
  by_cases h0 : N = 0
  · subst h0
    have HE : Hid (ys = []) := List.eq_nil_of_length_eq_zero (by rw [HY.out]; exact HNN.out.symm)
    obtain ⟨wa, hwa⟩ : ∃ wa, wa = wd := ⟨_, rfl⟩
    have HSa : Hid (SpAt wa g dg K1 V1 L c) := by
      show SpAt _ _ _ _ _ _ _
      rw [HK1.out, HV1.out, hwa, preK, preV, if_pos HE.out, if_pos HE.out]
      exact HSw.out
    have HTa : Hid (Touch w wa g 0 131) := by rw [hwa]; exact HTw.out
    rw [← hwa] at HPw ⊢
    clear hwa HSw HTw HTTw
    have HTTa : Hid (Tables wa) := hT.out.touch HTa.out hg
    have HPa : Hid (PL wa g v yss) := hp.out.touch HTa.out
    have HG : Hid (Calls Tryd.prog 26 #[.pointer (some ⟨g, 0, none⟩), .int .i64 (n : Nat)] wa fun e w' => Hid (∃ b, e = .returned (.slice (some ⟨b, 0, none⟩) n n) ∧ wa.heap.size ≤ b ∧ View w' (.slice (some ⟨b, 0, none⟩) n n) (fL (drO dg K V ys) n) ∧ SpAt w' g dg K1 (drV0 dg K V ys n) L c ∧ Touch wa w' g 0 131)) := by
      have q := give_ok g dg K1 V1 L c n wa k HSa HTTa hg hn
      rw [HK1.out, HV1.out] at q
      rw [HK1.out]
      exact q
    go_wp2_with (first | (go_at_call 25; refine (HJ.out _ HPw.out).mono ?_; rintro e5 w5 ⟨rfl, hw5⟩; obtain rfl := hw5.symm) | (go_at_call 26; refine HG.out.mono ?_))
    intro e3 w3 hh
    obtain ⟨b, rfl, hb3, hv3, hs3, ht3⟩ := hh.out
    have HT3 : Hid (Touch w w3 g 0 131) := HTa.out.trans ht3
    have HS3 : Hid (SpAt w3 g dg K1 (drV0 dg K V ys n) L c) := hs3
    have HV3 : Hid (View w3 (.slice (some ⟨b, 0, none⟩) n n) (fL (drO dg K V ys) n) ∧ w.heap.size ≤ b) := ⟨hv3, Nat.le_trans HTa.out.size hb3⟩
    have HTT3 : Hid (Tables w3) := hT.out.touch HT3.out hg
    have HP3 : Hid (PL w3 g v yss) := hp.out.touch HT3.out
    clear hh hb3 hv3 hs3 ht3 HG HTTa HPa HSa HTa
    go_wp2_with (go_at_call 24; refine (HU.out _ _ _ HS3.out HTT3.out HP3.out).mono ?_)
    intro e4 w4 hh
    obtain ⟨rfl, hs4, ht4⟩ := hh.out
    have HS4 : Hid (SpAt w4 g dg (drK dg K V ys n) (drV dg K V ys n) L c) := by
      show SpAt _ _ _ _ _ _ _
      have q := hs4
      rw [HK1.out] at q
      exact q
    have HT4 : Hid (Touch w w4 g 0 131) := HT3.out.trans ht4
    have HV4 : Hid (View w4 (.slice (some ⟨b, 0, none⟩) n n) (fL (drO dg K V ys) n)) := ht4.view HV3.out.1 (fun b' off l c' e => .inl (by injection e with e1 _ _; injection e1 with e1; injection e1 with e2 _; have := HV3.out.2; have := HGW.out; omega))
    have c3 : w4.cell? ⟨g, 130, none⟩ = some (.int .i64 c) := HS4.out.cnt
    have f3 : w4.frozen? ⟨g, 130, none⟩ = false := by have := (HS4.out.there 130 (by omega)).2; simpa using this
    have HF : Hid (View (w4.setCell ⟨g, 130, none⟩ (.int .i64 (c + 1))) (.slice (some ⟨b, 0, none⟩) n n) (fL (drO dg K V ys) n) ∧ SpAt (w4.setCell ⟨g, 130, none⟩ (.int .i64 (c + 1))) g dg (drK dg K V ys n) (drV dg K V ys n) L (c + 1) ∧ Touch w (w4.setCell ⟨g, 130, none⟩ (.int .i64 (c + 1))) g 0 131) := by
      have t5 : Touch w4 (w4.setCell ⟨g, 130, none⟩ (.int .i64 (c + 1))) g 0 131 := (Touch.refl w4 g 0 131).setCell 130 _ (by omega) (by omega)
      exact ⟨t5.view HV4.out (fun b' off l c' e => .inl (by injection e with e1 _ _; injection e1 with e1; injection e1 with e2 _; have := HV3.out.2; have := HGW.out; omega)), HS4.out.setC (c + 1), HT4.out.trans t5⟩
    clear hh hs4 ht4 HS3 HT3 HTT3 HP3
    go_wp2
    go_ret2
    exact ⟨b, rfl, HV3.out.2, HF.out.1, HF.out.2.1, HF.out.2.2⟩
  · have h1 : (0 : Int) < (N : Nat) := by omega
    have HE : Hid (ys ≠ []) := fun e => h0 (by rw [HNN.out, ← HY.out, e]; rfl)
    go_wp2_with (first
      | (go_at_call 25; refine (HJ.out _ HPw.out).mono ?_; rintro e5 w5 ⟨rfl, hw5⟩; obtain rfl := hw5.symm)
      | (go_at_call 24; refine (HU.out _ _ _ HSw.out HTTw.out HPw.out).mono ?_))
    intro e2 wa hh
    obtain ⟨rfl, hsa, hta⟩ := hh.out
    have HSa : Hid (SpAt wa g dg K1 V1 L c) := by
      show SpAt _ _ _ _ _ _ _
      rw [HK1.out, HV1.out, preK, preV, if_neg HE.out, if_neg HE.out]
      exact hsa
    have HTa : Hid (Touch w wa g 0 131) := HTw.out.trans hta
    clear hh hsa hta HSw HTw HTTw
    have HTTa : Hid (Tables wa) := hT.out.touch HTa.out hg
    have HPa : Hid (PL wa g v yss) := hp.out.touch HTa.out
    have HG : Hid (Calls Tryd.prog 26 #[.pointer (some ⟨g, 0, none⟩), .int .i64 (n : Nat)] wa fun e w' => Hid (∃ b, e = .returned (.slice (some ⟨b, 0, none⟩) n n) ∧ wa.heap.size ≤ b ∧ View w' (.slice (some ⟨b, 0, none⟩) n n) (fL (drO dg K V ys) n) ∧ SpAt w' g dg K1 (drV0 dg K V ys n) L c ∧ Touch wa w' g 0 131)) := by
      have q := give_ok g dg K1 V1 L c n wa k HSa HTTa hg hn
      rw [HK1.out, HV1.out] at q
      rw [HK1.out]
      exact q
    go_wp2_with (first | (go_at_call 25; refine (HJ.out _ HPw.out).mono ?_; rintro e5 w5 ⟨rfl, hw5⟩; obtain rfl := hw5.symm) | (go_at_call 26; refine HG.out.mono ?_))
    intro e3 w3 hh
    obtain ⟨b, rfl, hb3, hv3, hs3, ht3⟩ := hh.out
    have HT3 : Hid (Touch w w3 g 0 131) := HTa.out.trans ht3
    have HS3 : Hid (SpAt w3 g dg K1 (drV0 dg K V ys n) L c) := hs3
    have HV3 : Hid (View w3 (.slice (some ⟨b, 0, none⟩) n n) (fL (drO dg K V ys) n) ∧ w.heap.size ≤ b) := ⟨hv3, Nat.le_trans HTa.out.size hb3⟩
    have HTT3 : Hid (Tables w3) := hT.out.touch HT3.out hg
    have HP3 : Hid (PL w3 g v yss) := hp.out.touch HT3.out
    clear hh hb3 hv3 hs3 ht3 HG HTTa HPa HSa HTa
    go_wp2_with (go_at_call 24; refine (HU.out _ _ _ HS3.out HTT3.out HP3.out).mono ?_)
    intro e4 w4 hh
    obtain ⟨rfl, hs4, ht4⟩ := hh.out
    have HS4 : Hid (SpAt w4 g dg (drK dg K V ys n) (drV dg K V ys n) L c) := by
      show SpAt _ _ _ _ _ _ _
      have q := hs4
      rw [HK1.out] at q
      exact q
    have HT4 : Hid (Touch w w4 g 0 131) := HT3.out.trans ht4
    have HV4 : Hid (View w4 (.slice (some ⟨b, 0, none⟩) n n) (fL (drO dg K V ys) n)) := ht4.view HV3.out.1 (fun b' off l c' e => .inl (by injection e with e1 _ _; injection e1 with e1; injection e1 with e2 _; have := HV3.out.2; have := HGW.out; omega))
    have c3 : w4.cell? ⟨g, 130, none⟩ = some (.int .i64 c) := HS4.out.cnt
    have f3 : w4.frozen? ⟨g, 130, none⟩ = false := by have := (HS4.out.there 130 (by omega)).2; simpa using this
    have HF : Hid (View (w4.setCell ⟨g, 130, none⟩ (.int .i64 (c + 1))) (.slice (some ⟨b, 0, none⟩) n n) (fL (drO dg K V ys) n) ∧ SpAt (w4.setCell ⟨g, 130, none⟩ (.int .i64 (c + 1))) g dg (drK dg K V ys n) (drV dg K V ys n) L (c + 1) ∧ Touch w (w4.setCell ⟨g, 130, none⟩ (.int .i64 (c + 1))) g 0 131) := by
      have t5 : Touch w4 (w4.setCell ⟨g, 130, none⟩ (.int .i64 (c + 1))) g 0 131 := (Touch.refl w4 g 0 131).setCell 130 _ (by omega) (by omega)
      exact ⟨t5.view HV4.out (fun b' off l c' e => .inl (by injection e with e1 _ _; injection e1 with e1; injection e1 with e2 _; have := HV3.out.2; have := HGW.out; omega)), HS4.out.setC (c + 1), HT4.out.trans t5⟩
    clear hh hs4 ht4 HS3 HT3 HTT3 HP3
    go_wp2
    go_ret2
    exact ⟨b, rfl, HV3.out.2, HF.out.1, HF.out.2.1, HF.out.2.2⟩
end Go.Proofs.YtkeklmkaleomkaaDoor
namespace Go.Proofs.YtkeklmkaleomkaaDoor
open Go.RowKit
set_option linter.unusedVariables false
set_option linter.unusedSimpArgs false
set_option maxHeartbeats 1600000 in
set_option maxRecDepth 100000 in
theorem gd_0 (h L : Int) (ea na pa : Option Addr) (en ec nn nc pn pc : Nat) (w : World) (k : ¬ Known h) :
    Calls Tryd.prog 8 #[.agg #[.int .i64 h, .int .i64 L, .slice ea en ec, .slice na nn nc, .slice pa pn pc]] w fun e w' => e = .returned (.bool false) ∧ Below w.heap.size w w' := by
  have e1 : (h == 224) = false := by simp; intro e; exact k (.inl e)
  have e2 : (h == 256) = false := by simp; intro e; exact k (.inr (.inl e))
  have e3 : (h == 384) = false := by simp; intro e; exact k (.inr (.inr (.inl e)))
  have e4 : (h == 512) = false := by simp; intro e; exact k (.inr (.inr (.inr e)))
  obtain ⟨w0, hw0⟩ : ∃ w0, w0 = w.alloc (.cells #[.int .i64 h, .int .i64 L, .slice ea en ec, .slice na nn nc, .slice pa pn pc] 24) := ⟨_, rfl⟩
  have HB00 : Hid (Below w.heap.size w w0) := by rw [hw0]; exact (Below.refl _ _).alloc (Nat.le_refl _) _
  have F : ∀ j v, (#[.int .i64 h, .int .i64 L, .slice ea en ec, .slice na nn nc, .slice pa pn pc] : Array Value)[j]? = some v → w0.cell? ⟨w.heap.size, j, none⟩ = some v := fun j v hj => by
    rw [hw0, World.cell?_alloc_at _ 24 _ _ rfl]
    exact hj
  have f0 := F 0 _ rfl
  have f1 := F 1 _ rfl
  have f2 := F 2 _ rfl
  have f3 := F 3 _ rfl
  have f4 := F 4 _ rfl
  clear F
  go_enter Tryd.func8, Tryd.ntmps8
  go_upto_region 1 with fail
  rw [← hw0]
  clear hw0
  go_wp2
  go_ret
  exact ⟨rfl, HB00.out⟩
set_option maxHeartbeats 1600000 in
set_option maxRecDepth 100000 in
theorem gd_1_224 (L : Int) (ea na pa : Option Addr) (en ec nn nc pn pc : Nat) (w : World) (c0 : ¬ 1 ≤ L) :
    Calls Tryd.prog 8 #[.agg #[.int .i64 224, .int .i64 L, .slice ea en ec, .slice na nn nc, .slice pa pn pc]] w fun e w' => e = .returned (.bool false) ∧ Below w.heap.size w w' := by
  have q0 : decide (1 ≤ L) = false := by simp; omega
  obtain ⟨w0, hw0⟩ : ∃ w0, w0 = w.alloc (.cells #[.int .i64 224, .int .i64 L, .slice ea en ec, .slice na nn nc, .slice pa pn pc] 24) := ⟨_, rfl⟩
  have HB00 : Hid (Below w.heap.size w w0) := by rw [hw0]; exact (Below.refl _ _).alloc (Nat.le_refl _) _
  have F : ∀ j v, (#[.int .i64 224, .int .i64 L, .slice ea en ec, .slice na nn nc, .slice pa pn pc] : Array Value)[j]? = some v → w0.cell? ⟨w.heap.size, j, none⟩ = some v := fun j v hj => by
    rw [hw0, World.cell?_alloc_at _ 24 _ _ rfl]
    exact hj
  have f0 := F 0 _ rfl
  have f1 := F 1 _ rfl
  have f2 := F 2 _ rfl
  have f3 := F 3 _ rfl
  have f4 := F 4 _ rfl
  clear F
  go_enter Tryd.func8, Tryd.ntmps8
  go_upto_region 1 with fail
  rw [← hw0]
  clear hw0
  go_wp2
  go_ret
  exact ⟨rfl, HB00.out⟩
set_option maxHeartbeats 1600000 in
set_option maxRecDepth 100000 in
theorem gd_1_256 (L : Int) (ea na pa : Option Addr) (en ec nn nc pn pc : Nat) (w : World) (c0 : ¬ 1 ≤ L) :
    Calls Tryd.prog 8 #[.agg #[.int .i64 256, .int .i64 L, .slice ea en ec, .slice na nn nc, .slice pa pn pc]] w fun e w' => e = .returned (.bool false) ∧ Below w.heap.size w w' := by
  have q0 : decide (1 ≤ L) = false := by simp; omega
  obtain ⟨w0, hw0⟩ : ∃ w0, w0 = w.alloc (.cells #[.int .i64 256, .int .i64 L, .slice ea en ec, .slice na nn nc, .slice pa pn pc] 24) := ⟨_, rfl⟩
  have HB00 : Hid (Below w.heap.size w w0) := by rw [hw0]; exact (Below.refl _ _).alloc (Nat.le_refl _) _
  have F : ∀ j v, (#[.int .i64 256, .int .i64 L, .slice ea en ec, .slice na nn nc, .slice pa pn pc] : Array Value)[j]? = some v → w0.cell? ⟨w.heap.size, j, none⟩ = some v := fun j v hj => by
    rw [hw0, World.cell?_alloc_at _ 24 _ _ rfl]
    exact hj
  have f0 := F 0 _ rfl
  have f1 := F 1 _ rfl
  have f2 := F 2 _ rfl
  have f3 := F 3 _ rfl
  have f4 := F 4 _ rfl
  clear F
  go_enter Tryd.func8, Tryd.ntmps8
  go_upto_region 1 with fail
  rw [← hw0]
  clear hw0
  go_wp2
  go_ret
  exact ⟨rfl, HB00.out⟩
set_option maxHeartbeats 1600000 in
set_option maxRecDepth 100000 in
theorem gd_1_384 (L : Int) (ea na pa : Option Addr) (en ec nn nc pn pc : Nat) (w : World) (c0 : ¬ 1 ≤ L) :
    Calls Tryd.prog 8 #[.agg #[.int .i64 384, .int .i64 L, .slice ea en ec, .slice na nn nc, .slice pa pn pc]] w fun e w' => e = .returned (.bool false) ∧ Below w.heap.size w w' := by
  have q0 : decide (1 ≤ L) = false := by simp; omega
  obtain ⟨w0, hw0⟩ : ∃ w0, w0 = w.alloc (.cells #[.int .i64 384, .int .i64 L, .slice ea en ec, .slice na nn nc, .slice pa pn pc] 24) := ⟨_, rfl⟩
  have HB00 : Hid (Below w.heap.size w w0) := by rw [hw0]; exact (Below.refl _ _).alloc (Nat.le_refl _) _
  have F : ∀ j v, (#[.int .i64 384, .int .i64 L, .slice ea en ec, .slice na nn nc, .slice pa pn pc] : Array Value)[j]? = some v → w0.cell? ⟨w.heap.size, j, none⟩ = some v := fun j v hj => by
    rw [hw0, World.cell?_alloc_at _ 24 _ _ rfl]
    exact hj
  have f0 := F 0 _ rfl
  have f1 := F 1 _ rfl
  have f2 := F 2 _ rfl
  have f3 := F 3 _ rfl
  have f4 := F 4 _ rfl
  clear F
  go_enter Tryd.func8, Tryd.ntmps8
  go_upto_region 1 with fail
  rw [← hw0]
  clear hw0
  go_wp2
  go_ret
  exact ⟨rfl, HB00.out⟩
set_option maxHeartbeats 1600000 in
set_option maxRecDepth 100000 in
theorem gd_1_512 (L : Int) (ea na pa : Option Addr) (en ec nn nc pn pc : Nat) (w : World) (c0 : ¬ 1 ≤ L) :
    Calls Tryd.prog 8 #[.agg #[.int .i64 512, .int .i64 L, .slice ea en ec, .slice na nn nc, .slice pa pn pc]] w fun e w' => e = .returned (.bool false) ∧ Below w.heap.size w w' := by
  have q0 : decide (1 ≤ L) = false := by simp; omega
  obtain ⟨w0, hw0⟩ : ∃ w0, w0 = w.alloc (.cells #[.int .i64 512, .int .i64 L, .slice ea en ec, .slice na nn nc, .slice pa pn pc] 24) := ⟨_, rfl⟩
  have HB00 : Hid (Below w.heap.size w w0) := by rw [hw0]; exact (Below.refl _ _).alloc (Nat.le_refl _) _
  have F : ∀ j v, (#[.int .i64 512, .int .i64 L, .slice ea en ec, .slice na nn nc, .slice pa pn pc] : Array Value)[j]? = some v → w0.cell? ⟨w.heap.size, j, none⟩ = some v := fun j v hj => by
    rw [hw0, World.cell?_alloc_at _ 24 _ _ rfl]
    exact hj
  have f0 := F 0 _ rfl
  have f1 := F 1 _ rfl
  have f2 := F 2 _ rfl
  have f3 := F 3 _ rfl
  have f4 := F 4 _ rfl
  clear F
  go_enter Tryd.func8, Tryd.ntmps8
  go_upto_region 1 with fail
  rw [← hw0]
  clear hw0
  go_wp2
  go_ret
  exact ⟨rfl, HB00.out⟩
set_option maxHeartbeats 1600000 in
set_option maxRecDepth 100000 in
theorem gd_2_224 (L : Int) (ea na pa : Option Addr) (en ec nn nc pn pc : Nat) (w : World) (c0 : 1 ≤ L) (c1 : ¬ L ≤ 16777216) :
    Calls Tryd.prog 8 #[.agg #[.int .i64 224, .int .i64 L, .slice ea en ec, .slice na nn nc, .slice pa pn pc]] w fun e w' => e = .returned (.bool false) ∧ Below w.heap.size w w' := by
  have q0 : decide (1 ≤ L) = true := by simp; omega
  have q1 : decide (L ≤ 16777216) = false := by simp; omega
  obtain ⟨w0, hw0⟩ : ∃ w0, w0 = w.alloc (.cells #[.int .i64 224, .int .i64 L, .slice ea en ec, .slice na nn nc, .slice pa pn pc] 24) := ⟨_, rfl⟩
  have HB00 : Hid (Below w.heap.size w w0) := by rw [hw0]; exact (Below.refl _ _).alloc (Nat.le_refl _) _
  have F : ∀ j v, (#[.int .i64 224, .int .i64 L, .slice ea en ec, .slice na nn nc, .slice pa pn pc] : Array Value)[j]? = some v → w0.cell? ⟨w.heap.size, j, none⟩ = some v := fun j v hj => by
    rw [hw0, World.cell?_alloc_at _ 24 _ _ rfl]
    exact hj
  have f0 := F 0 _ rfl
  have f1 := F 1 _ rfl
  have f2 := F 2 _ rfl
  have f3 := F 3 _ rfl
  have f4 := F 4 _ rfl
  clear F
  go_enter Tryd.func8, Tryd.ntmps8
  go_upto_region 1 with fail
  rw [← hw0]
  clear hw0
  go_wp2
  go_ret
  exact ⟨rfl, HB00.out⟩
set_option maxHeartbeats 1600000 in
set_option maxRecDepth 100000 in
theorem gd_2_256 (L : Int) (ea na pa : Option Addr) (en ec nn nc pn pc : Nat) (w : World) (c0 : 1 ≤ L) (c1 : ¬ L ≤ 16777216) :
    Calls Tryd.prog 8 #[.agg #[.int .i64 256, .int .i64 L, .slice ea en ec, .slice na nn nc, .slice pa pn pc]] w fun e w' => e = .returned (.bool false) ∧ Below w.heap.size w w' := by
  have q0 : decide (1 ≤ L) = true := by simp; omega
  have q1 : decide (L ≤ 16777216) = false := by simp; omega
  obtain ⟨w0, hw0⟩ : ∃ w0, w0 = w.alloc (.cells #[.int .i64 256, .int .i64 L, .slice ea en ec, .slice na nn nc, .slice pa pn pc] 24) := ⟨_, rfl⟩
  have HB00 : Hid (Below w.heap.size w w0) := by rw [hw0]; exact (Below.refl _ _).alloc (Nat.le_refl _) _
  have F : ∀ j v, (#[.int .i64 256, .int .i64 L, .slice ea en ec, .slice na nn nc, .slice pa pn pc] : Array Value)[j]? = some v → w0.cell? ⟨w.heap.size, j, none⟩ = some v := fun j v hj => by
    rw [hw0, World.cell?_alloc_at _ 24 _ _ rfl]
    exact hj
  have f0 := F 0 _ rfl
  have f1 := F 1 _ rfl
  have f2 := F 2 _ rfl
  have f3 := F 3 _ rfl
  have f4 := F 4 _ rfl
  clear F
  go_enter Tryd.func8, Tryd.ntmps8
  go_upto_region 1 with fail
  rw [← hw0]
  clear hw0
  go_wp2
  go_ret
  exact ⟨rfl, HB00.out⟩
set_option maxHeartbeats 1600000 in
set_option maxRecDepth 100000 in
theorem gd_2_384 (L : Int) (ea na pa : Option Addr) (en ec nn nc pn pc : Nat) (w : World) (c0 : 1 ≤ L) (c1 : ¬ L ≤ 16777216) :
    Calls Tryd.prog 8 #[.agg #[.int .i64 384, .int .i64 L, .slice ea en ec, .slice na nn nc, .slice pa pn pc]] w fun e w' => e = .returned (.bool false) ∧ Below w.heap.size w w' := by
  have q0 : decide (1 ≤ L) = true := by simp; omega
  have q1 : decide (L ≤ 16777216) = false := by simp; omega
  obtain ⟨w0, hw0⟩ : ∃ w0, w0 = w.alloc (.cells #[.int .i64 384, .int .i64 L, .slice ea en ec, .slice na nn nc, .slice pa pn pc] 24) := ⟨_, rfl⟩
  have HB00 : Hid (Below w.heap.size w w0) := by rw [hw0]; exact (Below.refl _ _).alloc (Nat.le_refl _) _
  have F : ∀ j v, (#[.int .i64 384, .int .i64 L, .slice ea en ec, .slice na nn nc, .slice pa pn pc] : Array Value)[j]? = some v → w0.cell? ⟨w.heap.size, j, none⟩ = some v := fun j v hj => by
    rw [hw0, World.cell?_alloc_at _ 24 _ _ rfl]
    exact hj
  have f0 := F 0 _ rfl
  have f1 := F 1 _ rfl
  have f2 := F 2 _ rfl
  have f3 := F 3 _ rfl
  have f4 := F 4 _ rfl
  clear F
  go_enter Tryd.func8, Tryd.ntmps8
  go_upto_region 1 with fail
  rw [← hw0]
  clear hw0
  go_wp2
  go_ret
  exact ⟨rfl, HB00.out⟩
set_option maxHeartbeats 1600000 in
set_option maxRecDepth 100000 in
theorem gd_2_512 (L : Int) (ea na pa : Option Addr) (en ec nn nc pn pc : Nat) (w : World) (c0 : 1 ≤ L) (c1 : ¬ L ≤ 16777216) :
    Calls Tryd.prog 8 #[.agg #[.int .i64 512, .int .i64 L, .slice ea en ec, .slice na nn nc, .slice pa pn pc]] w fun e w' => e = .returned (.bool false) ∧ Below w.heap.size w w' := by
  have q0 : decide (1 ≤ L) = true := by simp; omega
  have q1 : decide (L ≤ 16777216) = false := by simp; omega
  obtain ⟨w0, hw0⟩ : ∃ w0, w0 = w.alloc (.cells #[.int .i64 512, .int .i64 L, .slice ea en ec, .slice na nn nc, .slice pa pn pc] 24) := ⟨_, rfl⟩
  have HB00 : Hid (Below w.heap.size w w0) := by rw [hw0]; exact (Below.refl _ _).alloc (Nat.le_refl _) _
  have F : ∀ j v, (#[.int .i64 512, .int .i64 L, .slice ea en ec, .slice na nn nc, .slice pa pn pc] : Array Value)[j]? = some v → w0.cell? ⟨w.heap.size, j, none⟩ = some v := fun j v hj => by
    rw [hw0, World.cell?_alloc_at _ 24 _ _ rfl]
    exact hj
  have f0 := F 0 _ rfl
  have f1 := F 1 _ rfl
  have f2 := F 2 _ rfl
  have f3 := F 3 _ rfl
  have f4 := F 4 _ rfl
  clear F
  go_enter Tryd.func8, Tryd.ntmps8
  go_upto_region 1 with fail
  rw [← hw0]
  clear hw0
  go_wp2
  go_ret
  exact ⟨rfl, HB00.out⟩
set_option maxHeartbeats 1600000 in
set_option maxRecDepth 100000 in
theorem gd_3_224 (L : Int) (ea na pa : Option Addr) (en ec nn nc pn pc : Nat) (w : World) (c0 : 1 ≤ L) (c1 : L ≤ 16777216) (c2 : ¬ (16 : Int) ≤ (en : Nat)) :
    Calls Tryd.prog 8 #[.agg #[.int .i64 224, .int .i64 L, .slice ea en ec, .slice na nn nc, .slice pa pn pc]] w fun e w' => e = .returned (.bool false) ∧ Below w.heap.size w w' := by
  have q0 : decide (1 ≤ L) = true := by simp; omega
  have q1 : decide (L ≤ 16777216) = true := by simp; omega
  have q2 : decide ((16 : Int) ≤ (en : Nat)) = false := by simp; omega
  obtain ⟨w0, hw0⟩ : ∃ w0, w0 = w.alloc (.cells #[.int .i64 224, .int .i64 L, .slice ea en ec, .slice na nn nc, .slice pa pn pc] 24) := ⟨_, rfl⟩
  have HB00 : Hid (Below w.heap.size w w0) := by rw [hw0]; exact (Below.refl _ _).alloc (Nat.le_refl _) _
  have F : ∀ j v, (#[.int .i64 224, .int .i64 L, .slice ea en ec, .slice na nn nc, .slice pa pn pc] : Array Value)[j]? = some v → w0.cell? ⟨w.heap.size, j, none⟩ = some v := fun j v hj => by
    rw [hw0, World.cell?_alloc_at _ 24 _ _ rfl]
    exact hj
  have f0 := F 0 _ rfl
  have f1 := F 1 _ rfl
  have f2 := F 2 _ rfl
  have f3 := F 3 _ rfl
  have f4 := F 4 _ rfl
  clear F
  go_enter Tryd.func8, Tryd.ntmps8
  go_upto_region 1 with fail
  rw [← hw0]
  clear hw0
  go_wp2
  go_ret
  exact ⟨rfl, HB00.out⟩
set_option maxHeartbeats 1600000 in
set_option maxRecDepth 100000 in
theorem gd_3_256 (L : Int) (ea na pa : Option Addr) (en ec nn nc pn pc : Nat) (w : World) (c0 : 1 ≤ L) (c1 : L ≤ 16777216) (c2 : ¬ (16 : Int) ≤ (en : Nat)) :
    Calls Tryd.prog 8 #[.agg #[.int .i64 256, .int .i64 L, .slice ea en ec, .slice na nn nc, .slice pa pn pc]] w fun e w' => e = .returned (.bool false) ∧ Below w.heap.size w w' := by
  have q0 : decide (1 ≤ L) = true := by simp; omega
  have q1 : decide (L ≤ 16777216) = true := by simp; omega
  have q2 : decide ((16 : Int) ≤ (en : Nat)) = false := by simp; omega
  obtain ⟨w0, hw0⟩ : ∃ w0, w0 = w.alloc (.cells #[.int .i64 256, .int .i64 L, .slice ea en ec, .slice na nn nc, .slice pa pn pc] 24) := ⟨_, rfl⟩
  have HB00 : Hid (Below w.heap.size w w0) := by rw [hw0]; exact (Below.refl _ _).alloc (Nat.le_refl _) _
  have F : ∀ j v, (#[.int .i64 256, .int .i64 L, .slice ea en ec, .slice na nn nc, .slice pa pn pc] : Array Value)[j]? = some v → w0.cell? ⟨w.heap.size, j, none⟩ = some v := fun j v hj => by
    rw [hw0, World.cell?_alloc_at _ 24 _ _ rfl]
    exact hj
  have f0 := F 0 _ rfl
  have f1 := F 1 _ rfl
  have f2 := F 2 _ rfl
  have f3 := F 3 _ rfl
  have f4 := F 4 _ rfl
  clear F
  go_enter Tryd.func8, Tryd.ntmps8
  go_upto_region 1 with fail
  rw [← hw0]
  clear hw0
  go_wp2
  go_ret
  exact ⟨rfl, HB00.out⟩
set_option maxHeartbeats 1600000 in
set_option maxRecDepth 100000 in
theorem gd_3_384 (L : Int) (ea na pa : Option Addr) (en ec nn nc pn pc : Nat) (w : World) (c0 : 1 ≤ L) (c1 : L ≤ 16777216) (c2 : ¬ (16 : Int) ≤ (en : Nat)) :
    Calls Tryd.prog 8 #[.agg #[.int .i64 384, .int .i64 L, .slice ea en ec, .slice na nn nc, .slice pa pn pc]] w fun e w' => e = .returned (.bool false) ∧ Below w.heap.size w w' := by
  have q0 : decide (1 ≤ L) = true := by simp; omega
  have q1 : decide (L ≤ 16777216) = true := by simp; omega
  have q2 : decide ((16 : Int) ≤ (en : Nat)) = false := by simp; omega
  obtain ⟨w0, hw0⟩ : ∃ w0, w0 = w.alloc (.cells #[.int .i64 384, .int .i64 L, .slice ea en ec, .slice na nn nc, .slice pa pn pc] 24) := ⟨_, rfl⟩
  have HB00 : Hid (Below w.heap.size w w0) := by rw [hw0]; exact (Below.refl _ _).alloc (Nat.le_refl _) _
  have F : ∀ j v, (#[.int .i64 384, .int .i64 L, .slice ea en ec, .slice na nn nc, .slice pa pn pc] : Array Value)[j]? = some v → w0.cell? ⟨w.heap.size, j, none⟩ = some v := fun j v hj => by
    rw [hw0, World.cell?_alloc_at _ 24 _ _ rfl]
    exact hj
  have f0 := F 0 _ rfl
  have f1 := F 1 _ rfl
  have f2 := F 2 _ rfl
  have f3 := F 3 _ rfl
  have f4 := F 4 _ rfl
  clear F
  go_enter Tryd.func8, Tryd.ntmps8
  go_upto_region 1 with fail
  rw [← hw0]
  clear hw0
  go_wp2
  go_ret
  exact ⟨rfl, HB00.out⟩
set_option maxHeartbeats 1600000 in
set_option maxRecDepth 100000 in
theorem gd_3_512 (L : Int) (ea na pa : Option Addr) (en ec nn nc pn pc : Nat) (w : World) (c0 : 1 ≤ L) (c1 : L ≤ 16777216) (c2 : ¬ (16 : Int) ≤ (en : Nat)) :
    Calls Tryd.prog 8 #[.agg #[.int .i64 512, .int .i64 L, .slice ea en ec, .slice na nn nc, .slice pa pn pc]] w fun e w' => e = .returned (.bool false) ∧ Below w.heap.size w w' := by
  have q0 : decide (1 ≤ L) = true := by simp; omega
  have q1 : decide (L ≤ 16777216) = true := by simp; omega
  have q2 : decide ((16 : Int) ≤ (en : Nat)) = false := by simp; omega
  obtain ⟨w0, hw0⟩ : ∃ w0, w0 = w.alloc (.cells #[.int .i64 512, .int .i64 L, .slice ea en ec, .slice na nn nc, .slice pa pn pc] 24) := ⟨_, rfl⟩
  have HB00 : Hid (Below w.heap.size w w0) := by rw [hw0]; exact (Below.refl _ _).alloc (Nat.le_refl _) _
  have F : ∀ j v, (#[.int .i64 512, .int .i64 L, .slice ea en ec, .slice na nn nc, .slice pa pn pc] : Array Value)[j]? = some v → w0.cell? ⟨w.heap.size, j, none⟩ = some v := fun j v hj => by
    rw [hw0, World.cell?_alloc_at _ 24 _ _ rfl]
    exact hj
  have f0 := F 0 _ rfl
  have f1 := F 1 _ rfl
  have f2 := F 2 _ rfl
  have f3 := F 3 _ rfl
  have f4 := F 4 _ rfl
  clear F
  go_enter Tryd.func8, Tryd.ntmps8
  go_upto_region 1 with fail
  rw [← hw0]
  clear hw0
  go_wp2
  go_ret
  exact ⟨rfl, HB00.out⟩
set_option maxHeartbeats 1600000 in
set_option maxRecDepth 100000 in
theorem gd_4_224 (L : Int) (ea na pa : Option Addr) (en ec nn nc pn pc : Nat) (w : World) (c0 : 1 ≤ L) (c1 : L ≤ 16777216) (c2 : (16 : Int) ≤ (en : Nat)) (c3 : ¬ ((en : Nat) : Int) ≤ 65536) :
    Calls Tryd.prog 8 #[.agg #[.int .i64 224, .int .i64 L, .slice ea en ec, .slice na nn nc, .slice pa pn pc]] w fun e w' => e = .returned (.bool false) ∧ Below w.heap.size w w' := by
  have q0 : decide (1 ≤ L) = true := by simp; omega
  have q1 : decide (L ≤ 16777216) = true := by simp; omega
  have q2 : decide ((16 : Int) ≤ (en : Nat)) = true := by simp; omega
  have q3 : decide (((en : Nat) : Int) ≤ 65536) = false := by simp; omega
  obtain ⟨w0, hw0⟩ : ∃ w0, w0 = w.alloc (.cells #[.int .i64 224, .int .i64 L, .slice ea en ec, .slice na nn nc, .slice pa pn pc] 24) := ⟨_, rfl⟩
  have HB00 : Hid (Below w.heap.size w w0) := by rw [hw0]; exact (Below.refl _ _).alloc (Nat.le_refl _) _
  have F : ∀ j v, (#[.int .i64 224, .int .i64 L, .slice ea en ec, .slice na nn nc, .slice pa pn pc] : Array Value)[j]? = some v → w0.cell? ⟨w.heap.size, j, none⟩ = some v := fun j v hj => by
    rw [hw0, World.cell?_alloc_at _ 24 _ _ rfl]
    exact hj
  have f0 := F 0 _ rfl
  have f1 := F 1 _ rfl
  have f2 := F 2 _ rfl
  have f3 := F 3 _ rfl
  have f4 := F 4 _ rfl
  clear F
  go_enter Tryd.func8, Tryd.ntmps8
  go_upto_region 1 with fail
  rw [← hw0]
  clear hw0
  go_wp2
  go_ret
  exact ⟨rfl, HB00.out⟩
set_option maxHeartbeats 1600000 in
set_option maxRecDepth 100000 in
theorem gd_4_256 (L : Int) (ea na pa : Option Addr) (en ec nn nc pn pc : Nat) (w : World) (c0 : 1 ≤ L) (c1 : L ≤ 16777216) (c2 : (16 : Int) ≤ (en : Nat)) (c3 : ¬ ((en : Nat) : Int) ≤ 65536) :
    Calls Tryd.prog 8 #[.agg #[.int .i64 256, .int .i64 L, .slice ea en ec, .slice na nn nc, .slice pa pn pc]] w fun e w' => e = .returned (.bool false) ∧ Below w.heap.size w w' := by
  have q0 : decide (1 ≤ L) = true := by simp; omega
  have q1 : decide (L ≤ 16777216) = true := by simp; omega
  have q2 : decide ((16 : Int) ≤ (en : Nat)) = true := by simp; omega
  have q3 : decide (((en : Nat) : Int) ≤ 65536) = false := by simp; omega
  obtain ⟨w0, hw0⟩ : ∃ w0, w0 = w.alloc (.cells #[.int .i64 256, .int .i64 L, .slice ea en ec, .slice na nn nc, .slice pa pn pc] 24) := ⟨_, rfl⟩
  have HB00 : Hid (Below w.heap.size w w0) := by rw [hw0]; exact (Below.refl _ _).alloc (Nat.le_refl _) _
  have F : ∀ j v, (#[.int .i64 256, .int .i64 L, .slice ea en ec, .slice na nn nc, .slice pa pn pc] : Array Value)[j]? = some v → w0.cell? ⟨w.heap.size, j, none⟩ = some v := fun j v hj => by
    rw [hw0, World.cell?_alloc_at _ 24 _ _ rfl]
    exact hj
  have f0 := F 0 _ rfl
  have f1 := F 1 _ rfl
  have f2 := F 2 _ rfl
  have f3 := F 3 _ rfl
  have f4 := F 4 _ rfl
  clear F
  go_enter Tryd.func8, Tryd.ntmps8
  go_upto_region 1 with fail
  rw [← hw0]
  clear hw0
  go_wp2
  go_ret
  exact ⟨rfl, HB00.out⟩
set_option maxHeartbeats 1600000 in
set_option maxRecDepth 100000 in
theorem gd_4_384 (L : Int) (ea na pa : Option Addr) (en ec nn nc pn pc : Nat) (w : World) (c0 : 1 ≤ L) (c1 : L ≤ 16777216) (c2 : (16 : Int) ≤ (en : Nat)) (c3 : ¬ ((en : Nat) : Int) ≤ 65536) :
    Calls Tryd.prog 8 #[.agg #[.int .i64 384, .int .i64 L, .slice ea en ec, .slice na nn nc, .slice pa pn pc]] w fun e w' => e = .returned (.bool false) ∧ Below w.heap.size w w' := by
  have q0 : decide (1 ≤ L) = true := by simp; omega
  have q1 : decide (L ≤ 16777216) = true := by simp; omega
  have q2 : decide ((16 : Int) ≤ (en : Nat)) = true := by simp; omega
  have q3 : decide (((en : Nat) : Int) ≤ 65536) = false := by simp; omega
  obtain ⟨w0, hw0⟩ : ∃ w0, w0 = w.alloc (.cells #[.int .i64 384, .int .i64 L, .slice ea en ec, .slice na nn nc, .slice pa pn pc] 24) := ⟨_, rfl⟩
  have HB00 : Hid (Below w.heap.size w w0) := by rw [hw0]; exact (Below.refl _ _).alloc (Nat.le_refl _) _
  have F : ∀ j v, (#[.int .i64 384, .int .i64 L, .slice ea en ec, .slice na nn nc, .slice pa pn pc] : Array Value)[j]? = some v → w0.cell? ⟨w.heap.size, j, none⟩ = some v := fun j v hj => by
    rw [hw0, World.cell?_alloc_at _ 24 _ _ rfl]
    exact hj
  have f0 := F 0 _ rfl
  have f1 := F 1 _ rfl
  have f2 := F 2 _ rfl
  have f3 := F 3 _ rfl
  have f4 := F 4 _ rfl
  clear F
  go_enter Tryd.func8, Tryd.ntmps8
  go_upto_region 1 with fail
  rw [← hw0]
  clear hw0
  go_wp2
  go_ret
  exact ⟨rfl, HB00.out⟩
set_option maxHeartbeats 1600000 in
set_option maxRecDepth 100000 in
theorem gd_4_512 (L : Int) (ea na pa : Option Addr) (en ec nn nc pn pc : Nat) (w : World) (c0 : 1 ≤ L) (c1 : L ≤ 16777216) (c2 : (16 : Int) ≤ (en : Nat)) (c3 : ¬ ((en : Nat) : Int) ≤ 65536) :
    Calls Tryd.prog 8 #[.agg #[.int .i64 512, .int .i64 L, .slice ea en ec, .slice na nn nc, .slice pa pn pc]] w fun e w' => e = .returned (.bool false) ∧ Below w.heap.size w w' := by
  have q0 : decide (1 ≤ L) = true := by simp; omega
  have q1 : decide (L ≤ 16777216) = true := by simp; omega
  have q2 : decide ((16 : Int) ≤ (en : Nat)) = true := by simp; omega
  have q3 : decide (((en : Nat) : Int) ≤ 65536) = false := by simp; omega
  obtain ⟨w0, hw0⟩ : ∃ w0, w0 = w.alloc (.cells #[.int .i64 512, .int .i64 L, .slice ea en ec, .slice na nn nc, .slice pa pn pc] 24) := ⟨_, rfl⟩
  have HB00 : Hid (Below w.heap.size w w0) := by rw [hw0]; exact (Below.refl _ _).alloc (Nat.le_refl _) _
  have F : ∀ j v, (#[.int .i64 512, .int .i64 L, .slice ea en ec, .slice na nn nc, .slice pa pn pc] : Array Value)[j]? = some v → w0.cell? ⟨w.heap.size, j, none⟩ = some v := fun j v hj => by
    rw [hw0, World.cell?_alloc_at _ 24 _ _ rfl]
    exact hj
  have f0 := F 0 _ rfl
  have f1 := F 1 _ rfl
  have f2 := F 2 _ rfl
  have f3 := F 3 _ rfl
  have f4 := F 4 _ rfl
  clear F
  go_enter Tryd.func8, Tryd.ntmps8
  go_upto_region 1 with fail
  rw [← hw0]
  clear hw0
  go_wp2
  go_ret
  exact ⟨rfl, HB00.out⟩
set_option maxHeartbeats 1600000 in
set_option maxRecDepth 100000 in
theorem gd_5_224 (L : Int) (ea na pa : Option Addr) (en ec nn nc pn pc : Nat) (w : World) (c0 : 1 ≤ L) (c1 : L ≤ 16777216) (c2 : (16 : Int) ≤ (en : Nat)) (c3 : ((en : Nat) : Int) ≤ 65536) (c4 : ¬ ((nn : Nat) : Int) ≤ 65536) :
    Calls Tryd.prog 8 #[.agg #[.int .i64 224, .int .i64 L, .slice ea en ec, .slice na nn nc, .slice pa pn pc]] w fun e w' => e = .returned (.bool false) ∧ Below w.heap.size w w' := by
  have q0 : decide (1 ≤ L) = true := by simp; omega
  have q1 : decide (L ≤ 16777216) = true := by simp; omega
  have q2 : decide ((16 : Int) ≤ (en : Nat)) = true := by simp; omega
  have q3 : decide (((en : Nat) : Int) ≤ 65536) = true := by simp; omega
  have q4 : decide (((nn : Nat) : Int) ≤ 65536) = false := by simp; omega
  obtain ⟨w0, hw0⟩ : ∃ w0, w0 = w.alloc (.cells #[.int .i64 224, .int .i64 L, .slice ea en ec, .slice na nn nc, .slice pa pn pc] 24) := ⟨_, rfl⟩
  have HB00 : Hid (Below w.heap.size w w0) := by rw [hw0]; exact (Below.refl _ _).alloc (Nat.le_refl _) _
  have F : ∀ j v, (#[.int .i64 224, .int .i64 L, .slice ea en ec, .slice na nn nc, .slice pa pn pc] : Array Value)[j]? = some v → w0.cell? ⟨w.heap.size, j, none⟩ = some v := fun j v hj => by
    rw [hw0, World.cell?_alloc_at _ 24 _ _ rfl]
    exact hj
  have f0 := F 0 _ rfl
  have f1 := F 1 _ rfl
  have f2 := F 2 _ rfl
  have f3 := F 3 _ rfl
  have f4 := F 4 _ rfl
  clear F
  go_enter Tryd.func8, Tryd.ntmps8
  go_upto_region 1 with fail
  rw [← hw0]
  clear hw0
  go_wp2
  go_ret
  exact ⟨rfl, HB00.out⟩
set_option maxHeartbeats 1600000 in
set_option maxRecDepth 100000 in
theorem gd_5_256 (L : Int) (ea na pa : Option Addr) (en ec nn nc pn pc : Nat) (w : World) (c0 : 1 ≤ L) (c1 : L ≤ 16777216) (c2 : (16 : Int) ≤ (en : Nat)) (c3 : ((en : Nat) : Int) ≤ 65536) (c4 : ¬ ((nn : Nat) : Int) ≤ 65536) :
    Calls Tryd.prog 8 #[.agg #[.int .i64 256, .int .i64 L, .slice ea en ec, .slice na nn nc, .slice pa pn pc]] w fun e w' => e = .returned (.bool false) ∧ Below w.heap.size w w' := by
  have q0 : decide (1 ≤ L) = true := by simp; omega
  have q1 : decide (L ≤ 16777216) = true := by simp; omega
  have q2 : decide ((16 : Int) ≤ (en : Nat)) = true := by simp; omega
  have q3 : decide (((en : Nat) : Int) ≤ 65536) = true := by simp; omega
  have q4 : decide (((nn : Nat) : Int) ≤ 65536) = false := by simp; omega
  obtain ⟨w0, hw0⟩ : ∃ w0, w0 = w.alloc (.cells #[.int .i64 256, .int .i64 L, .slice ea en ec, .slice na nn nc, .slice pa pn pc] 24) := ⟨_, rfl⟩
  have HB00 : Hid (Below w.heap.size w w0) := by rw [hw0]; exact (Below.refl _ _).alloc (Nat.le_refl _) _
  have F : ∀ j v, (#[.int .i64 256, .int .i64 L, .slice ea en ec, .slice na nn nc, .slice pa pn pc] : Array Value)[j]? = some v → w0.cell? ⟨w.heap.size, j, none⟩ = some v := fun j v hj => by
    rw [hw0, World.cell?_alloc_at _ 24 _ _ rfl]
    exact hj
  have f0 := F 0 _ rfl
  have f1 := F 1 _ rfl
  have f2 := F 2 _ rfl
  have f3 := F 3 _ rfl
  have f4 := F 4 _ rfl
  clear F
  go_enter Tryd.func8, Tryd.ntmps8
  go_upto_region 1 with fail
  rw [← hw0]
  clear hw0
  go_wp2
  go_ret
  exact ⟨rfl, HB00.out⟩
set_option maxHeartbeats 1600000 in
set_option maxRecDepth 100000 in
theorem gd_5_384 (L : Int) (ea na pa : Option Addr) (en ec nn nc pn pc : Nat) (w : World) (c0 : 1 ≤ L) (c1 : L ≤ 16777216) (c2 : (16 : Int) ≤ (en : Nat)) (c3 : ((en : Nat) : Int) ≤ 65536) (c4 : ¬ ((nn : Nat) : Int) ≤ 65536) :
    Calls Tryd.prog 8 #[.agg #[.int .i64 384, .int .i64 L, .slice ea en ec, .slice na nn nc, .slice pa pn pc]] w fun e w' => e = .returned (.bool false) ∧ Below w.heap.size w w' := by
  have q0 : decide (1 ≤ L) = true := by simp; omega
  have q1 : decide (L ≤ 16777216) = true := by simp; omega
  have q2 : decide ((16 : Int) ≤ (en : Nat)) = true := by simp; omega
  have q3 : decide (((en : Nat) : Int) ≤ 65536) = true := by simp; omega
  have q4 : decide (((nn : Nat) : Int) ≤ 65536) = false := by simp; omega
  obtain ⟨w0, hw0⟩ : ∃ w0, w0 = w.alloc (.cells #[.int .i64 384, .int .i64 L, .slice ea en ec, .slice na nn nc, .slice pa pn pc] 24) := ⟨_, rfl⟩
  have HB00 : Hid (Below w.heap.size w w0) := by rw [hw0]; exact (Below.refl _ _).alloc (Nat.le_refl _) _
  have F : ∀ j v, (#[.int .i64 384, .int .i64 L, .slice ea en ec, .slice na nn nc, .slice pa pn pc] : Array Value)[j]? = some v → w0.cell? ⟨w.heap.size, j, none⟩ = some v := fun j v hj => by
    rw [hw0, World.cell?_alloc_at _ 24 _ _ rfl]
    exact hj
  have f0 := F 0 _ rfl
  have f1 := F 1 _ rfl
  have f2 := F 2 _ rfl
  have f3 := F 3 _ rfl
  have f4 := F 4 _ rfl
  clear F
  go_enter Tryd.func8, Tryd.ntmps8
  go_upto_region 1 with fail
  rw [← hw0]
  clear hw0
  go_wp2
  go_ret
  exact ⟨rfl, HB00.out⟩
set_option maxHeartbeats 1600000 in
set_option maxRecDepth 100000 in
theorem gd_5_512 (L : Int) (ea na pa : Option Addr) (en ec nn nc pn pc : Nat) (w : World) (c0 : 1 ≤ L) (c1 : L ≤ 16777216) (c2 : (16 : Int) ≤ (en : Nat)) (c3 : ((en : Nat) : Int) ≤ 65536) (c4 : ¬ ((nn : Nat) : Int) ≤ 65536) :
    Calls Tryd.prog 8 #[.agg #[.int .i64 512, .int .i64 L, .slice ea en ec, .slice na nn nc, .slice pa pn pc]] w fun e w' => e = .returned (.bool false) ∧ Below w.heap.size w w' := by
  have q0 : decide (1 ≤ L) = true := by simp; omega
  have q1 : decide (L ≤ 16777216) = true := by simp; omega
  have q2 : decide ((16 : Int) ≤ (en : Nat)) = true := by simp; omega
  have q3 : decide (((en : Nat) : Int) ≤ 65536) = true := by simp; omega
  have q4 : decide (((nn : Nat) : Int) ≤ 65536) = false := by simp; omega
  obtain ⟨w0, hw0⟩ : ∃ w0, w0 = w.alloc (.cells #[.int .i64 512, .int .i64 L, .slice ea en ec, .slice na nn nc, .slice pa pn pc] 24) := ⟨_, rfl⟩
  have HB00 : Hid (Below w.heap.size w w0) := by rw [hw0]; exact (Below.refl _ _).alloc (Nat.le_refl _) _
  have F : ∀ j v, (#[.int .i64 512, .int .i64 L, .slice ea en ec, .slice na nn nc, .slice pa pn pc] : Array Value)[j]? = some v → w0.cell? ⟨w.heap.size, j, none⟩ = some v := fun j v hj => by
    rw [hw0, World.cell?_alloc_at _ 24 _ _ rfl]
    exact hj
  have f0 := F 0 _ rfl
  have f1 := F 1 _ rfl
  have f2 := F 2 _ rfl
  have f3 := F 3 _ rfl
  have f4 := F 4 _ rfl
  clear F
  go_enter Tryd.func8, Tryd.ntmps8
  go_upto_region 1 with fail
  rw [← hw0]
  clear hw0
  go_wp2
  go_ret
  exact ⟨rfl, HB00.out⟩
set_option maxHeartbeats 1600000 in
set_option maxRecDepth 100000 in
theorem gd_6_224 (L : Int) (ea na pa : Option Addr) (en ec nn nc pn pc : Nat) (w : World) (c0 : 1 ≤ L) (c1 : L ≤ 16777216) (c2 : (16 : Int) ≤ (en : Nat)) (c3 : ((en : Nat) : Int) ≤ 65536) (c4 : ((nn : Nat) : Int) ≤ 65536) (c5 : ¬ ((pn : Nat) : Int) ≤ 65536) :
    Calls Tryd.prog 8 #[.agg #[.int .i64 224, .int .i64 L, .slice ea en ec, .slice na nn nc, .slice pa pn pc]] w fun e w' => e = .returned (.bool false) ∧ Below w.heap.size w w' := by
  have q0 : decide (1 ≤ L) = true := by simp; omega
  have q1 : decide (L ≤ 16777216) = true := by simp; omega
  have q2 : decide ((16 : Int) ≤ (en : Nat)) = true := by simp; omega
  have q3 : decide (((en : Nat) : Int) ≤ 65536) = true := by simp; omega
  have q4 : decide (((nn : Nat) : Int) ≤ 65536) = true := by simp; omega
  have q5 : decide (((pn : Nat) : Int) ≤ 65536) = false := by simp; omega
  obtain ⟨w0, hw0⟩ : ∃ w0, w0 = w.alloc (.cells #[.int .i64 224, .int .i64 L, .slice ea en ec, .slice na nn nc, .slice pa pn pc] 24) := ⟨_, rfl⟩
  have HB00 : Hid (Below w.heap.size w w0) := by rw [hw0]; exact (Below.refl _ _).alloc (Nat.le_refl _) _
  have F : ∀ j v, (#[.int .i64 224, .int .i64 L, .slice ea en ec, .slice na nn nc, .slice pa pn pc] : Array Value)[j]? = some v → w0.cell? ⟨w.heap.size, j, none⟩ = some v := fun j v hj => by
    rw [hw0, World.cell?_alloc_at _ 24 _ _ rfl]
    exact hj
  have f0 := F 0 _ rfl
  have f1 := F 1 _ rfl
  have f2 := F 2 _ rfl
  have f3 := F 3 _ rfl
  have f4 := F 4 _ rfl
  clear F
  go_enter Tryd.func8, Tryd.ntmps8
  go_upto_region 1 with fail
  rw [← hw0]
  clear hw0
  go_wp2
  go_ret
  exact ⟨rfl, HB00.out⟩
set_option maxHeartbeats 1600000 in
set_option maxRecDepth 100000 in
theorem gd_6_256 (L : Int) (ea na pa : Option Addr) (en ec nn nc pn pc : Nat) (w : World) (c0 : 1 ≤ L) (c1 : L ≤ 16777216) (c2 : (16 : Int) ≤ (en : Nat)) (c3 : ((en : Nat) : Int) ≤ 65536) (c4 : ((nn : Nat) : Int) ≤ 65536) (c5 : ¬ ((pn : Nat) : Int) ≤ 65536) :
    Calls Tryd.prog 8 #[.agg #[.int .i64 256, .int .i64 L, .slice ea en ec, .slice na nn nc, .slice pa pn pc]] w fun e w' => e = .returned (.bool false) ∧ Below w.heap.size w w' := by
  have q0 : decide (1 ≤ L) = true := by simp; omega
  have q1 : decide (L ≤ 16777216) = true := by simp; omega
  have q2 : decide ((16 : Int) ≤ (en : Nat)) = true := by simp; omega
  have q3 : decide (((en : Nat) : Int) ≤ 65536) = true := by simp; omega
  have q4 : decide (((nn : Nat) : Int) ≤ 65536) = true := by simp; omega
  have q5 : decide (((pn : Nat) : Int) ≤ 65536) = false := by simp; omega
  obtain ⟨w0, hw0⟩ : ∃ w0, w0 = w.alloc (.cells #[.int .i64 256, .int .i64 L, .slice ea en ec, .slice na nn nc, .slice pa pn pc] 24) := ⟨_, rfl⟩
  have HB00 : Hid (Below w.heap.size w w0) := by rw [hw0]; exact (Below.refl _ _).alloc (Nat.le_refl _) _
  have F : ∀ j v, (#[.int .i64 256, .int .i64 L, .slice ea en ec, .slice na nn nc, .slice pa pn pc] : Array Value)[j]? = some v → w0.cell? ⟨w.heap.size, j, none⟩ = some v := fun j v hj => by
    rw [hw0, World.cell?_alloc_at _ 24 _ _ rfl]
    exact hj
  have f0 := F 0 _ rfl
  have f1 := F 1 _ rfl
  have f2 := F 2 _ rfl
  have f3 := F 3 _ rfl
  have f4 := F 4 _ rfl
  clear F
  go_enter Tryd.func8, Tryd.ntmps8
  go_upto_region 1 with fail
  rw [← hw0]
  clear hw0
  go_wp2
  go_ret
  exact ⟨rfl, HB00.out⟩
set_option maxHeartbeats 1600000 in
set_option maxRecDepth 100000 in
theorem gd_6_384 (L : Int) (ea na pa : Option Addr) (en ec nn nc pn pc : Nat) (w : World) (c0 : 1 ≤ L) (c1 : L ≤ 16777216) (c2 : (16 : Int) ≤ (en : Nat)) (c3 : ((en : Nat) : Int) ≤ 65536) (c4 : ((nn : Nat) : Int) ≤ 65536) (c5 : ¬ ((pn : Nat) : Int) ≤ 65536) :
    Calls Tryd.prog 8 #[.agg #[.int .i64 384, .int .i64 L, .slice ea en ec, .slice na nn nc, .slice pa pn pc]] w fun e w' => e = .returned (.bool false) ∧ Below w.heap.size w w' := by
  have q0 : decide (1 ≤ L) = true := by simp; omega
  have q1 : decide (L ≤ 16777216) = true := by simp; omega
  have q2 : decide ((16 : Int) ≤ (en : Nat)) = true := by simp; omega
  have q3 : decide (((en : Nat) : Int) ≤ 65536) = true := by simp; omega
  have q4 : decide (((nn : Nat) : Int) ≤ 65536) = true := by simp; omega
  have q5 : decide (((pn : Nat) : Int) ≤ 65536) = false := by simp; omega
  obtain ⟨w0, hw0⟩ : ∃ w0, w0 = w.alloc (.cells #[.int .i64 384, .int .i64 L, .slice ea en ec, .slice na nn nc, .slice pa pn pc] 24) := ⟨_, rfl⟩
  have HB00 : Hid (Below w.heap.size w w0) := by rw [hw0]; exact (Below.refl _ _).alloc (Nat.le_refl _) _
  have F : ∀ j v, (#[.int .i64 384, .int .i64 L, .slice ea en ec, .slice na nn nc, .slice pa pn pc] : Array Value)[j]? = some v → w0.cell? ⟨w.heap.size, j, none⟩ = some v := fun j v hj => by
    rw [hw0, World.cell?_alloc_at _ 24 _ _ rfl]
    exact hj
  have f0 := F 0 _ rfl
  have f1 := F 1 _ rfl
  have f2 := F 2 _ rfl
  have f3 := F 3 _ rfl
  have f4 := F 4 _ rfl
  clear F
  go_enter Tryd.func8, Tryd.ntmps8
  go_upto_region 1 with fail
  rw [← hw0]
  clear hw0
  go_wp2
  go_ret
  exact ⟨rfl, HB00.out⟩
set_option maxHeartbeats 1600000 in
set_option maxRecDepth 100000 in
theorem gd_6_512 (L : Int) (ea na pa : Option Addr) (en ec nn nc pn pc : Nat) (w : World) (c0 : 1 ≤ L) (c1 : L ≤ 16777216) (c2 : (16 : Int) ≤ (en : Nat)) (c3 : ((en : Nat) : Int) ≤ 65536) (c4 : ((nn : Nat) : Int) ≤ 65536) (c5 : ¬ ((pn : Nat) : Int) ≤ 65536) :
    Calls Tryd.prog 8 #[.agg #[.int .i64 512, .int .i64 L, .slice ea en ec, .slice na nn nc, .slice pa pn pc]] w fun e w' => e = .returned (.bool false) ∧ Below w.heap.size w w' := by
  have q0 : decide (1 ≤ L) = true := by simp; omega
  have q1 : decide (L ≤ 16777216) = true := by simp; omega
  have q2 : decide ((16 : Int) ≤ (en : Nat)) = true := by simp; omega
  have q3 : decide (((en : Nat) : Int) ≤ 65536) = true := by simp; omega
  have q4 : decide (((nn : Nat) : Int) ≤ 65536) = true := by simp; omega
  have q5 : decide (((pn : Nat) : Int) ≤ 65536) = false := by simp; omega
  obtain ⟨w0, hw0⟩ : ∃ w0, w0 = w.alloc (.cells #[.int .i64 512, .int .i64 L, .slice ea en ec, .slice na nn nc, .slice pa pn pc] 24) := ⟨_, rfl⟩
  have HB00 : Hid (Below w.heap.size w w0) := by rw [hw0]; exact (Below.refl _ _).alloc (Nat.le_refl _) _
  have F : ∀ j v, (#[.int .i64 512, .int .i64 L, .slice ea en ec, .slice na nn nc, .slice pa pn pc] : Array Value)[j]? = some v → w0.cell? ⟨w.heap.size, j, none⟩ = some v := fun j v hj => by
    rw [hw0, World.cell?_alloc_at _ 24 _ _ rfl]
    exact hj
  have f0 := F 0 _ rfl
  have f1 := F 1 _ rfl
  have f2 := F 2 _ rfl
  have f3 := F 3 _ rfl
  have f4 := F 4 _ rfl
  clear F
  go_enter Tryd.func8, Tryd.ntmps8
  go_upto_region 1 with fail
  rw [← hw0]
  clear hw0
  go_wp2
  go_ret
  exact ⟨rfl, HB00.out⟩
set_option maxHeartbeats 1600000 in
set_option maxRecDepth 100000 in
theorem gd_7_224 (L : Int) (ea na pa : Option Addr) (en ec nn nc pn pc : Nat) (w : World) (c0 : 1 ≤ L) (c1 : L ≤ 16777216) (c2 : (16 : Int) ≤ (en : Nat)) (c3 : ((en : Nat) : Int) ≤ 65536) (c4 : ((nn : Nat) : Int) ≤ 65536) (c5 : ((pn : Nat) : Int) ≤ 65536) :
    Calls Tryd.prog 8 #[.agg #[.int .i64 224, .int .i64 L, .slice ea en ec, .slice na nn nc, .slice pa pn pc]] w fun e w' => e = .returned (.bool true) ∧ Below w.heap.size w w' := by
  have q0 : decide (1 ≤ L) = true := by simp; omega
  have q1 : decide (L ≤ 16777216) = true := by simp; omega
  have q2 : decide ((16 : Int) ≤ (en : Nat)) = true := by simp; omega
  have q3 : decide (((en : Nat) : Int) ≤ 65536) = true := by simp; omega
  have q4 : decide (((nn : Nat) : Int) ≤ 65536) = true := by simp; omega
  have q5 : decide (((pn : Nat) : Int) ≤ 65536) = true := by simp; omega
  obtain ⟨w0, hw0⟩ : ∃ w0, w0 = w.alloc (.cells #[.int .i64 224, .int .i64 L, .slice ea en ec, .slice na nn nc, .slice pa pn pc] 24) := ⟨_, rfl⟩
  have HB00 : Hid (Below w.heap.size w w0) := by rw [hw0]; exact (Below.refl _ _).alloc (Nat.le_refl _) _
  have F : ∀ j v, (#[.int .i64 224, .int .i64 L, .slice ea en ec, .slice na nn nc, .slice pa pn pc] : Array Value)[j]? = some v → w0.cell? ⟨w.heap.size, j, none⟩ = some v := fun j v hj => by
    rw [hw0, World.cell?_alloc_at _ 24 _ _ rfl]
    exact hj
  have f0 := F 0 _ rfl
  have f1 := F 1 _ rfl
  have f2 := F 2 _ rfl
  have f3 := F 3 _ rfl
  have f4 := F 4 _ rfl
  clear F
  go_enter Tryd.func8, Tryd.ntmps8
  go_upto_region 1 with fail
  rw [← hw0]
  clear hw0
  go_wp2
  go_ret
  exact ⟨rfl, HB00.out⟩
set_option maxHeartbeats 1600000 in
set_option maxRecDepth 100000 in
theorem gd_7_256 (L : Int) (ea na pa : Option Addr) (en ec nn nc pn pc : Nat) (w : World) (c0 : 1 ≤ L) (c1 : L ≤ 16777216) (c2 : (16 : Int) ≤ (en : Nat)) (c3 : ((en : Nat) : Int) ≤ 65536) (c4 : ((nn : Nat) : Int) ≤ 65536) (c5 : ((pn : Nat) : Int) ≤ 65536) :
    Calls Tryd.prog 8 #[.agg #[.int .i64 256, .int .i64 L, .slice ea en ec, .slice na nn nc, .slice pa pn pc]] w fun e w' => e = .returned (.bool true) ∧ Below w.heap.size w w' := by
  have q0 : decide (1 ≤ L) = true := by simp; omega
  have q1 : decide (L ≤ 16777216) = true := by simp; omega
  have q2 : decide ((16 : Int) ≤ (en : Nat)) = true := by simp; omega
  have q3 : decide (((en : Nat) : Int) ≤ 65536) = true := by simp; omega
  have q4 : decide (((nn : Nat) : Int) ≤ 65536) = true := by simp; omega
  have q5 : decide (((pn : Nat) : Int) ≤ 65536) = true := by simp; omega
  obtain ⟨w0, hw0⟩ : ∃ w0, w0 = w.alloc (.cells #[.int .i64 256, .int .i64 L, .slice ea en ec, .slice na nn nc, .slice pa pn pc] 24) := ⟨_, rfl⟩
  have HB00 : Hid (Below w.heap.size w w0) := by rw [hw0]; exact (Below.refl _ _).alloc (Nat.le_refl _) _
  have F : ∀ j v, (#[.int .i64 256, .int .i64 L, .slice ea en ec, .slice na nn nc, .slice pa pn pc] : Array Value)[j]? = some v → w0.cell? ⟨w.heap.size, j, none⟩ = some v := fun j v hj => by
    rw [hw0, World.cell?_alloc_at _ 24 _ _ rfl]
    exact hj
  have f0 := F 0 _ rfl
  have f1 := F 1 _ rfl
  have f2 := F 2 _ rfl
  have f3 := F 3 _ rfl
  have f4 := F 4 _ rfl
  clear F
  go_enter Tryd.func8, Tryd.ntmps8
  go_upto_region 1 with fail
  rw [← hw0]
  clear hw0
  go_wp2
  go_ret
  exact ⟨rfl, HB00.out⟩
set_option maxHeartbeats 1600000 in
set_option maxRecDepth 100000 in
theorem gd_7_384 (L : Int) (ea na pa : Option Addr) (en ec nn nc pn pc : Nat) (w : World) (c0 : 1 ≤ L) (c1 : L ≤ 16777216) (c2 : (16 : Int) ≤ (en : Nat)) (c3 : ((en : Nat) : Int) ≤ 65536) (c4 : ((nn : Nat) : Int) ≤ 65536) (c5 : ((pn : Nat) : Int) ≤ 65536) :
    Calls Tryd.prog 8 #[.agg #[.int .i64 384, .int .i64 L, .slice ea en ec, .slice na nn nc, .slice pa pn pc]] w fun e w' => e = .returned (.bool true) ∧ Below w.heap.size w w' := by
  have q0 : decide (1 ≤ L) = true := by simp; omega
  have q1 : decide (L ≤ 16777216) = true := by simp; omega
  have q2 : decide ((16 : Int) ≤ (en : Nat)) = true := by simp; omega
  have q3 : decide (((en : Nat) : Int) ≤ 65536) = true := by simp; omega
  have q4 : decide (((nn : Nat) : Int) ≤ 65536) = true := by simp; omega
  have q5 : decide (((pn : Nat) : Int) ≤ 65536) = true := by simp; omega
  obtain ⟨w0, hw0⟩ : ∃ w0, w0 = w.alloc (.cells #[.int .i64 384, .int .i64 L, .slice ea en ec, .slice na nn nc, .slice pa pn pc] 24) := ⟨_, rfl⟩
  have HB00 : Hid (Below w.heap.size w w0) := by rw [hw0]; exact (Below.refl _ _).alloc (Nat.le_refl _) _
  have F : ∀ j v, (#[.int .i64 384, .int .i64 L, .slice ea en ec, .slice na nn nc, .slice pa pn pc] : Array Value)[j]? = some v → w0.cell? ⟨w.heap.size, j, none⟩ = some v := fun j v hj => by
    rw [hw0, World.cell?_alloc_at _ 24 _ _ rfl]
    exact hj
  have f0 := F 0 _ rfl
  have f1 := F 1 _ rfl
  have f2 := F 2 _ rfl
  have f3 := F 3 _ rfl
  have f4 := F 4 _ rfl
  clear F
  go_enter Tryd.func8, Tryd.ntmps8
  go_upto_region 1 with fail
  rw [← hw0]
  clear hw0
  go_wp2
  go_ret
  exact ⟨rfl, HB00.out⟩
set_option maxHeartbeats 1600000 in
set_option maxRecDepth 100000 in
theorem gd_7_512 (L : Int) (ea na pa : Option Addr) (en ec nn nc pn pc : Nat) (w : World) (c0 : 1 ≤ L) (c1 : L ≤ 16777216) (c2 : (16 : Int) ≤ (en : Nat)) (c3 : ((en : Nat) : Int) ≤ 65536) (c4 : ((nn : Nat) : Int) ≤ 65536) (c5 : ((pn : Nat) : Int) ≤ 65536) :
    Calls Tryd.prog 8 #[.agg #[.int .i64 512, .int .i64 L, .slice ea en ec, .slice na nn nc, .slice pa pn pc]] w fun e w' => e = .returned (.bool true) ∧ Below w.heap.size w w' := by
  have q0 : decide (1 ≤ L) = true := by simp; omega
  have q1 : decide (L ≤ 16777216) = true := by simp; omega
  have q2 : decide ((16 : Int) ≤ (en : Nat)) = true := by simp; omega
  have q3 : decide (((en : Nat) : Int) ≤ 65536) = true := by simp; omega
  have q4 : decide (((nn : Nat) : Int) ≤ 65536) = true := by simp; omega
  have q5 : decide (((pn : Nat) : Int) ≤ 65536) = true := by simp; omega
  obtain ⟨w0, hw0⟩ : ∃ w0, w0 = w.alloc (.cells #[.int .i64 512, .int .i64 L, .slice ea en ec, .slice na nn nc, .slice pa pn pc] 24) := ⟨_, rfl⟩
  have HB00 : Hid (Below w.heap.size w w0) := by rw [hw0]; exact (Below.refl _ _).alloc (Nat.le_refl _) _
  have F : ∀ j v, (#[.int .i64 512, .int .i64 L, .slice ea en ec, .slice na nn nc, .slice pa pn pc] : Array Value)[j]? = some v → w0.cell? ⟨w.heap.size, j, none⟩ = some v := fun j v hj => by
    rw [hw0, World.cell?_alloc_at _ 24 _ _ rfl]
    exact hj
  have f0 := F 0 _ rfl
  have f1 := F 1 _ rfl
  have f2 := F 2 _ rfl
  have f3 := F 3 _ rfl
  have f4 := F 4 _ rfl
  clear F
  go_enter Tryd.func8, Tryd.ntmps8
  go_upto_region 1 with fail
  rw [← hw0]
  clear hw0
  go_wp2
  go_ret
  exact ⟨rfl, HB00.out⟩
/-- A seed that must be taken. -/
def Good (h L : Int) (en nn pn : Nat) : Prop := Known h ∧ 1 ≤ L ∧ L ≤ 16777216 ∧ 16 ≤ en ∧ en ≤ 65536 ∧ nn ≤ 65536 ∧ pn ≤ 65536
theorem good_any (h L : Int) (ea na pa : Option Addr) (en ec nn nc pn pc : Nat) (w : World) :
    Calls Tryd.prog 8 #[.agg #[.int .i64 h, .int .i64 L, .slice ea en ec, .slice na nn nc, .slice pa pn pc]] w fun e w' => ∃ G : Bool, e = .returned (.bool G) ∧ (G = true ↔ Good h L en nn pn) ∧ Below w.heap.size w w' := by
  have no : ¬ Good h L en nn pn → Calls Tryd.prog 8 #[.agg #[.int .i64 h, .int .i64 L, .slice ea en ec, .slice na nn nc, .slice pa pn pc]] w (fun e w' => e = .returned (.bool false) ∧ Below w.heap.size w w') → Calls Tryd.prog 8 #[.agg #[.int .i64 h, .int .i64 L, .slice ea en ec, .slice na nn nc, .slice pa pn pc]] w fun e w' => ∃ G : Bool, e = .returned (.bool G) ∧ (G = true ↔ Good h L en nn pn) ∧ Below w.heap.size w w' := fun n q => q.mono fun e w' r => ⟨false, r.1, ⟨fun x => (by cases x), fun x => absurd x n⟩, r.2⟩
  by_cases k : Known h
  · by_cases c0 : 1 ≤ L
    case neg =>
      refine no (fun g => by obtain ⟨_, g1, g2, g3, g4, g5, g6⟩ := g; omega) ?_
      rcases k with rfl | rfl | rfl | rfl
      · exact gd_1_224 L ea na pa en ec nn nc pn pc w c0
      · exact gd_1_256 L ea na pa en ec nn nc pn pc w c0
      · exact gd_1_384 L ea na pa en ec nn nc pn pc w c0
      · exact gd_1_512 L ea na pa en ec nn nc pn pc w c0
    by_cases c1 : L ≤ 16777216
    case neg =>
      refine no (fun g => by obtain ⟨_, g1, g2, g3, g4, g5, g6⟩ := g; omega) ?_
      rcases k with rfl | rfl | rfl | rfl
      · exact gd_2_224 L ea na pa en ec nn nc pn pc w c0 c1
      · exact gd_2_256 L ea na pa en ec nn nc pn pc w c0 c1
      · exact gd_2_384 L ea na pa en ec nn nc pn pc w c0 c1
      · exact gd_2_512 L ea na pa en ec nn nc pn pc w c0 c1
    by_cases c2 : (16 : Int) ≤ (en : Nat)
    case neg =>
      refine no (fun g => by obtain ⟨_, g1, g2, g3, g4, g5, g6⟩ := g; omega) ?_
      rcases k with rfl | rfl | rfl | rfl
      · exact gd_3_224 L ea na pa en ec nn nc pn pc w c0 c1 c2
      · exact gd_3_256 L ea na pa en ec nn nc pn pc w c0 c1 c2
      · exact gd_3_384 L ea na pa en ec nn nc pn pc w c0 c1 c2
      · exact gd_3_512 L ea na pa en ec nn nc pn pc w c0 c1 c2
    by_cases c3 : ((en : Nat) : Int) ≤ 65536
    case neg =>
      refine no (fun g => by obtain ⟨_, g1, g2, g3, g4, g5, g6⟩ := g; omega) ?_
      rcases k with rfl | rfl | rfl | rfl
      · exact gd_4_224 L ea na pa en ec nn nc pn pc w c0 c1 c2 c3
      · exact gd_4_256 L ea na pa en ec nn nc pn pc w c0 c1 c2 c3
      · exact gd_4_384 L ea na pa en ec nn nc pn pc w c0 c1 c2 c3
      · exact gd_4_512 L ea na pa en ec nn nc pn pc w c0 c1 c2 c3
    by_cases c4 : ((nn : Nat) : Int) ≤ 65536
    case neg =>
      refine no (fun g => by obtain ⟨_, g1, g2, g3, g4, g5, g6⟩ := g; omega) ?_
      rcases k with rfl | rfl | rfl | rfl
      · exact gd_5_224 L ea na pa en ec nn nc pn pc w c0 c1 c2 c3 c4
      · exact gd_5_256 L ea na pa en ec nn nc pn pc w c0 c1 c2 c3 c4
      · exact gd_5_384 L ea na pa en ec nn nc pn pc w c0 c1 c2 c3 c4
      · exact gd_5_512 L ea na pa en ec nn nc pn pc w c0 c1 c2 c3 c4
    by_cases c5 : ((pn : Nat) : Int) ≤ 65536
    case neg =>
      refine no (fun g => by obtain ⟨_, g1, g2, g3, g4, g5, g6⟩ := g; omega) ?_
      rcases k with rfl | rfl | rfl | rfl
      · exact gd_6_224 L ea na pa en ec nn nc pn pc w c0 c1 c2 c3 c4 c5
      · exact gd_6_256 L ea na pa en ec nn nc pn pc w c0 c1 c2 c3 c4 c5
      · exact gd_6_384 L ea na pa en ec nn nc pn pc w c0 c1 c2 c3 c4 c5
      · exact gd_6_512 L ea na pa en ec nn nc pn pc w c0 c1 c2 c3 c4 c5
    have g : Good h L en nn pn := ⟨k, c0, c1, by omega, by omega, by omega, by omega⟩
    have yes : Calls Tryd.prog 8 #[.agg #[.int .i64 h, .int .i64 L, .slice ea en ec, .slice na nn nc, .slice pa pn pc]] w (fun e w' => e = .returned (.bool true) ∧ Below w.heap.size w w') := by
      rcases k with rfl | rfl | rfl | rfl
      · exact gd_7_224 L ea na pa en ec nn nc pn pc w c0 c1 c2 c3 c4 c5
      · exact gd_7_256 L ea na pa en ec nn nc pn pc w c0 c1 c2 c3 c4 c5
      · exact gd_7_384 L ea na pa en ec nn nc pn pc w c0 c1 c2 c3 c4 c5
      · exact gd_7_512 L ea na pa en ec nn nc pn pc w c0 c1 c2 c3 c4 c5
    exact yes.mono fun e w' r => ⟨true, r.1, ⟨fun _ => g, fun _ => rfl⟩, r.2⟩
  · exact no (fun g => k g.1) (gd_0 h L ea na pa en ec nn nc pn pc w k)
end Go.Proofs.YtkeklmkaleomkaaDoor
