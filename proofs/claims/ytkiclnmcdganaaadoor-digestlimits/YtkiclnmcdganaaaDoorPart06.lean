import Derived.Test.YtkiclnmcdganaaaDoorPart05
import Derived.ArgAppend
import Derived.Maps.AppendAt
import Derived.OwnWalk
import Derived.Lib.SlBytesConst
namespace Go.Proofs.YtkiclnmcdganaaaDoor
open Go.RowKit
set_option linter.unusedVariables false
set_option linter.unusedSimpArgs false
theorem Tryd.info22L : (Tryd.prog.info? 22).map (fun i => (i.zero, i.size, i.bytes)) = some (some (.slice none 0 0), 1, 24) := by kernel_rfl
/-- The mega slice. -/
abbrev mg (mb : Nat) : Value := .slice (some ⟨mb, 0, none⟩) 1048576 1048576
theorem owns_kept2 {w w' : World} {B n e s : Nat} {v : Value} {xs : List Value} (h : w.ownsRow B e s v n xs) (hb : Below w.heap.size w w') : w'.ownsRow B e s v n xs := by
  obtain ⟨h1, h2⟩ := h
  refine ⟨h1, ?_⟩
  rcases h2 with h2 | ⟨g, c, cur, e, q1, q2, q⟩
  · exact .inl h2
  · refine .inr ⟨g, c, cur, e, q1, ?_, q⟩
    rw [hb.block g (Array.getElem?_eq_some_iff.1 q2).1]
    exact q2
theorem rep_get {α : Type} (x : α) (n i : Nat) (h : i < n) : (List.replicate n x)[i]? = some x := by simp [h]
theorem rep_app_l {α : Type} (x y : α) (n i : Nat) (h : i < n) : (List.replicate n x ++ [y])[i]? = some x := by
  rw [List.getElem?_append_left (by simpa using h)]
  exact rep_get x n i h
theorem rep_app_r {α : Type} (x y : α) (n : Nat) : (List.replicate n x ++ [y])[n]? = some y := by
  rw [List.getElem?_append_right (by simp)]
  simp
/-- 32 times mega, at pb. -/
structure LP (u : World) (pb mb : Nat) (Z : List Int) : Prop where
  cells : ∀ i, i < 32 → u.cell? ⟨pb, i, none⟩ = some (mg mb)
  vz : View u (mg mb) Z
theorem LP.blk {u v : World} {pb mb : Nat} {Z : List Int} (s : LP u pb mb Z) (h1 : v.heap[pb]? = u.heap[pb]?) (h2 : v.heap[mb]? = u.heap[mb]?) : LP v pb mb Z :=
  ⟨fun i hi => by rw [World.cell?_of_block (a := ⟨pb, i, none⟩) h1]; exact s.cells i hi, s.vz.blk' (fun b off e => by injection e with e; injection e with e _; subst e; exact h2)⟩
theorem rep_flat (Z : List Int) (n : Nat) : (List.replicate n Z).flatten.length = n * Z.length := by
  induction n with
  | zero => simp
  | succ n ih => rw [List.replicate_succ, List.flatten_cons, List.length_append, ih, Nat.succ_mul]; omega
theorem LP.parts {u : World} {pb mb : Nat} {Z : List Int} (s : LP u pb mb Z) (c : Nat) (hc : 32 ≤ c) (hm : c ≤ maxLen) (g : Nat) (h1 : pb ≠ g) (h2 : mb ≠ g) : Parts u g (.slice (some ⟨pb, 0, none⟩) 32 c) (List.replicate 32 Z) := by
  refine ⟨_, c, by rw [List.length_replicate], by rw [List.length_replicate]; exact hc, hm, .inr ⟨pb, 0, rfl, h1, fun i hi => ⟨mg mb, by rw [Nat.zero_add]; exact s.cells i (by rw [List.length_replicate] at hi; exact hi), ?_, fun _ b off l c e => by injection e with e _ _; injection e with e; injection e with e _; omega⟩⟩⟩
  have hi' : i < 32 := by rw [List.length_replicate] at hi; exact hi
  have e : (List.replicate 32 Z).getD i [] = Z := by
    rw [List.getD_eq_getElem?_getD, rep_get Z 32 i hi']
    rfl
  rw [e]
  exact s.vz
/-- What over is. -/
structure OV (u : World) (ob oc mb yb : Nat) (Z : List Int) : Prop where
  cells : ∀ i, i < 32 → u.cell? ⟨ob, i, none⟩ = some (mg mb)
  last : u.cell? ⟨ob, 32, none⟩ = some (.slice (some ⟨yb, 0, none⟩) 1 1)
  vz : View u (mg mb) Z
  vy : View u (.slice (some ⟨yb, 0, none⟩) 1 1) [1]
  c1 : 33 ≤ oc
  c2 : oc ≤ maxLen
theorem OV.parts {u : World} {ob oc mb yb : Nat} {Z : List Int} (s : OV u ob oc mb yb Z) (g : Nat) (h1 : ob ≠ g) (h2 : mb ≠ g) (h3 : yb ≠ g) : Parts u g (.slice (some ⟨ob, 0, none⟩) 33 oc) (List.replicate 32 Z ++ [[1]]) := by
  have hl : (List.replicate 32 Z ++ [[1]]).length = 33 := by rw [List.length_append, List.length_replicate]; rfl
  refine ⟨_, oc, by rw [hl], by rw [hl]; exact s.c1, s.c2, .inr ⟨ob, 0, rfl, h1, fun i hi => ?_⟩⟩
  have hi' : i < 33 := by rw [hl] at hi; exact hi
  rw [Nat.zero_add]
  by_cases h : i < 32
  · refine ⟨mg mb, s.cells i h, ?_, fun _ b off l c e => by injection e with e _ _; injection e with e; injection e with e _; omega⟩
    have e : (List.replicate 32 Z ++ [[1]]).getD i [] = Z := by
      rw [List.getD_eq_getElem?_getD, rep_app_l Z [1] 32 i h]
      rfl
    rw [e]
    exact s.vz
  · obtain rfl : i = 32 := by omega
    refine ⟨_, s.last, ?_, fun _ b off l c e => by injection e with e _ _; injection e with e; injection e with e _; omega⟩
    have e : (List.replicate 32 Z ++ [[1]]).getD 32 [] = [1] := by
      rw [List.getD_eq_getElem?_getD, rep_app_r Z [1] 32]
      rfl
    rw [e]
    exact s.vy
theorem OV.below {u v : World} {ob oc mb yb : Nat} {Z : List Int} (s : OV u ob oc mb yb Z) (b : Below u.heap.size u v) : OV v ob oc mb yb Z := by
  have hb := lt_of_cell (s.cells 0 (by omega))
  exact ⟨fun i hi => by rw [World.cell?_of_block (a := ⟨ob, i, none⟩) (b.block ob hb)]; exact s.cells i hi, by rw [World.cell?_of_block (a := ⟨ob, 32, none⟩) (b.block ob hb)]; exact s.last, s.vz.kept fun q hq => b.block q hq, s.vy.kept fun q hq => b.block q hq, s.c1, s.c2⟩
def OvP (w w' : World) (B pb ob oc mb yb : Nat) : Prop := (∀ i, i < 32 → w'.cell? ⟨pb, i, none⟩ = some (mg mb)) ∧ (∀ i, i < 32 → w'.cell? ⟨ob, i, none⟩ = some (mg mb)) ∧ w'.cell? ⟨ob, 32, none⟩ = some (.slice (some ⟨yb, 0, none⟩) 1 1) ∧ 33 ≤ oc ∧ oc ≤ maxLen ∧ B ≤ ob ∧ w.grownBy w' (some pb)
theorem row_cells {w : World} {B b n c : Nat} {xs : List Value} (h : w.ownsRow B 22 1 (.slice (some ⟨b, 0, none⟩) n c) n xs) (i : Nat) (hi : i < n) : w.cell? ⟨b, i, none⟩ = xs[i]? := h.cellAt i (by omega)
/-- append to a row that is used again behind it. -/
theorem wpList_append_keep {w : World} {ops : Array Oper} {rest : List Oper} {o : Oper} {a : Act} {Q : Exit → Act → World → Prop} (hgd : o.guard = none) (s x : Operand)
    (ho : o.op = .call { callee := .builtin .append, args := #[s, x], argTypes := #[56, 56] }) (B pb pc mb yb ad : Nat) (hs : a.eval s = .slice (some ⟨pb, 0, none⟩) 32 pc) (hown : w.ownsRow B 22 1 (.slice (some ⟨pb, 0, none⟩) 32 pc) 32 (List.replicate 32 (mg mb)))
    (hx : a.eval x = .slice (some ⟨ad, 0, none⟩) 1 1) (hy : w.cell? ⟨ad, 0, none⟩ = some (.slice (some ⟨yb, 0, none⟩) 1 1)) (hB : B ≤ w.heap.size)
    (h : ∀ ob oc w', OvP w w' B pb ob oc mb yb → wpList Tryd.prog ops Q rest (a.put o.dst (.slice (some ⟨ob, 0, none⟩) 33 oc)) w') : wpList Tryd.prog ops Q (o :: rest) a w := by
  obtain ⟨i0, hi, hz0, hz1, hz2⟩ := info_parts Tryd.info22L
  have hcap : 32 ≤ pc ∧ pc ≤ maxLen := by
    rcases hown.2 with ⟨h, _⟩ | ⟨g, c, cur, he, h1, h2, h3, h4, _⟩
    · cases h
    · cases he; exact ⟨h3, h4⟩
  have hpb : pb < w.heap.size := (hown.lt pb rfl).2
  have hnews : ∀ j u, [Value.slice (some ⟨yb, 0, none⟩) 1 1][j]? = some u → w.cell? ((⟨ad, 0, none⟩ : Addr).add j) = some u := by
    intro j u hu
    have hj : j = 0 := by have := (List.getElem?_eq_some_iff.1 hu).1; simp at this; omega
    subst hj
    cases hu
    rw [Addr.add_lit, Nat.zero_add]
    exact hy
  have getx : ∀ i, i < 32 → (List.replicate 32 (mg mb) ++ [Value.slice (some ⟨yb, 0, none⟩) 1 1])[i]? = some (mg mb) := fun i hi => rep_app_l _ _ 32 i hi
  have gety : (List.replicate 32 (mg mb) ++ [Value.slice (some ⟨yb, 0, none⟩) 1 1])[32]? = some (.slice (some ⟨yb, 0, none⟩) 1 1) := rep_app_r _ _ 32
  by_cases hc : 33 ≤ pc
  · refine wpList_append_fits w hgd s x 56 ho B 22 i0 1 Tryd.underlying56 hi hz1 pb 32 pc _ hs hown ⟨ad, 0, none⟩ 1 1 [.slice (some ⟨yb, 0, none⟩) 1 1] hx rfl hnews (by intro u hu; simp at hu; subst hu; rfl) (by omega) ?_
    intro w' own' hg
    refine h pb pc w' ⟨fun i hi => ?_, fun i hi => ?_, ?_, hc, hcap.2, (hown.lt pb rfl).1, hg⟩
    · rw [row_cells own' i (by omega)]; exact getx i hi
    · rw [row_cells own' i (by omega)]; exact getx i hi
    · rw [row_cells own' 32 (by omega)]; exact gety
  · refine wpList_append_grows w hgd s x 56 ho 22 i0 (.slice none 0 0) 1 24 Tryd.underlying56 hi hz0 hz1 hz2 rfl (by decide) (some ⟨pb, 0, none⟩) 32 pc (List.replicate 32 (mg mb)) hs (fun e => by cases e) (by rw [List.length_replicate]) (fun b e j u hu => ?_) ⟨ad, 0, none⟩ 1 1 [.slice (some ⟨yb, 0, none⟩) 1 1] hx rfl hnews (by intro u hu; simp at hu; subst hu; rfl) (by omega) (by unfold maxLen; omega) (by omega) ?_
    · obtain rfl : b = ⟨pb, 0, none⟩ := (Option.some.inj e).symm
      have hj : j < 32 := by have := (List.getElem?_eq_some_iff.1 hu).1; rw [List.length_replicate] at this; exact this
      rw [Addr.add_lit, Nat.zero_add, row_cells hown j hj]
      exact hu
    intro v' w' own' hg
    obtain ⟨ob, oc, rfl⟩ : ∃ ob oc, v' = .slice (some ⟨ob, 0, none⟩) 33 oc := by
      rcases own'.2 with ⟨_, h0⟩ | ⟨g, c, cur, he, _⟩
      · omega
      · exact ⟨g, c, he⟩
    have hoc : 33 ≤ oc ∧ oc ≤ maxLen := by
      rcases own'.2 with ⟨h, _⟩ | ⟨g, c, cur, he, h1, h2, h3, h4, _⟩
      · cases h
      · cases he; exact ⟨h3, h4⟩
    refine h ob oc w' ⟨fun i hi => ?_, fun i hi => ?_, ?_, hoc.1, hoc.2, Nat.le_trans hB (own'.lt ob rfl).1, ⟨hg.os, hg.tape, hg.output, hg.size, fun k hk _ => hg.block k hk (by simp)⟩⟩
    · rw [World.cell?_of_block (a := ⟨pb, i, none⟩) (hg.block pb hpb (by simp)), row_cells hown i hi]
      exact rep_get _ 32 i hi
    · rw [row_cells own' i (by omega)]; exact getx i hi
    · rw [row_cells own' 32 (by omega)]; exact gety
end Go.Proofs.YtkiclnmcdganaaaDoor
namespace Go.Proofs.YtkiclnmcdganaaaDoor
open Go.RowKit
set_option linter.unusedVariables false
set_option linter.unusedSimpArgs false
theorem make_wanted {P : Program} (w : World) {ops : Array Oper} {rest : List Oper} {o : Oper} {a : Act} {Q : Exit → Act → World → Prop}
    (hg : Region.wanted o (yielded ops a.tmps) = true) (l c : Operand) (t : TypeId) (hop : o.op = Op.makeSlice t l c)
    (base : Nat) (e : TypeId) (i : TypeInfo) (z : Value) (size : Nat) (h1 : P.underlying t = some (.slice e)) (h2 : P.info? e = some i) (h3 : i.zero = some z) (h4 : i.size = size)
    (kl kc : IntKind) (L C : Int) (n : Nat) (hl : a.eval l = .int kl L) (hc : a.eval c = .int kc C) (hL : L = (n : Int)) (hC : C = (n : Int)) (b2 : i.bytes * n ≤ 281474976710656) (b3 : n ≤ maxLen) (b4 : base ≤ w.heap.size)
    (hK : ∀ w', w'.ownsRow base e size (.slice (some ⟨w.heap.size, 0, none⟩) n n) n (madeCells z.cells (n * size)).toList → w.grownBy w' none → wpList P ops Q rest (a.put o.dst (.slice (some ⟨w.heap.size, 0, none⟩) n n)) w') :
    wpList P ops Q (o :: rest) a w := by
  refine wpList_step fun K hK' => ?_
  rw [if_pos hg]
  obtain ⟨w', hrun, r1, r2⟩ := run_make_full (P := P) w base t e i z size h1 h2 h3 h4 kl kc n b2 b3 b4
  subst hL
  subst hC
  unfold Oper.wp
  simp [execOp, hop, hl, hc, hrun, Result.andThen]
  exact hK' _ _ (hK w' r1 r2)
theorem hex_long (a : Option Addr) (w : World) : Calls Tryd.prog 30 #[.slice a 8388609 8388609] w fun e w' => e = .returned (.string ⟨#[]⟩) ∧ w' = w := by
  go_enter Tryd.func30, Tryd.ntmps30
  go_wp2
  go_ret
  exact ⟨rfl, rfl⟩
theorem b64_long (a : Option Addr) (w : World) : Calls Tryd.prog 31 #[.slice a 12582913 12582913] w fun e w' => e = .returned (.string ⟨#[]⟩) ∧ w' = w := by
  go_enter Tryd.func31, Tryd.ntmps31
  go_wp2
  go_ret
  exact ⟨rfl, rfl⟩
theorem view_lit (w : World) (zs : List Int) (t : TypeId) (f : Nat × Nat) (hl : zs.length ≤ 1000) : View (w.alloc (.cells (cellsU8 zs).toArray t f)) (.slice (some ⟨w.heap.size, 0, none⟩) zs.length zs.length) zs := by
  refine ⟨_, zs.length, rfl, Nat.le_refl _, by unfold maxLen; omega, (fun e => by cases e), .inr ⟨w.heap.size, 0, rfl, fun j hj => ?_⟩⟩
  rw [Nat.zero_add]
  have hb : (w.alloc (.cells (cellsU8 zs).toArray t f)).heap[w.heap.size]? = some (.cells (cellsU8 zs).toArray t f) := by
    show (w.heap.push _)[w.heap.size]? = _
    simp
  simp only [World.cell?, hb]
  simp [cellsU8, List.getElem?_eq_getElem hj, List.getD]
theorem k512 : Known 512 := .inr (.inr (.inr rfl))
theorem k384 : Known 384 := .inr (.inr (.inl rfl))
def LsP (w w' : World) (e : Ending) : Prop := ∃ g, e = .returned (.tuple #[.pointer (some ⟨g, 0, none⟩), .int .i64 0]) ∧ w.heap.size ≤ g ∧ Rep w' g 0 512 (wdOf 512) (firstE 512) 0 [] ∧ Below w.heap.size w w'
def LmP (w w' : World) (e : Ending) (si so : Eight) : Prop := ∃ g, e = .returned (.tuple #[.pointer (some ⟨g, 0, none⟩), .int .i64 0]) ∧ w.heap.size ≤ g ∧ MRep w' g 384 si so [] ∧ Below w.heap.size w w'
/-- The stream, the Mac and the parts. -/
structure LS (w u : World) (g1 g2 pb mb : Nat) (si so : Eight) (Z zs zm : List Int) : Prop where
  sr : Rep u g1 0 512 (wdOf 512) (firstE 512) 0 zs
  mr : MRep u g2 384 si so zm
  lp : LP u pb mb Z
  bel : Below w.heap.size w u
  n1 : pb < g1
  n2 : mb < pb
  n3 : g1 < g2
  n4 : w.heap.size ≤ mb
theorem LS.lts {w u : World} {g1 g2 pb mb : Nat} {si so : Eight} {Z zs zm : List Int} (s : LS w u g1 g2 pb mb si so Z zs zm) : g1 < u.heap.size ∧ g2 < u.heap.size := ⟨s.sr.lt, s.mr.1.lt⟩
theorem LS.below {w u v : World} {g1 g2 pb mb : Nat} {si so : Eight} {Z zs zm : List Int} (s : LS w u g1 g2 pb mb si so Z zs zm) (b : Below u.heap.size u v) : LS w v g1 g2 pb mb si so Z zs zm := by
  have l := s.lts
  have n1 := s.n1
  have n2 := s.n2
  exact ⟨s.sr.below b, s.mr.below b, s.lp.blk (b.block pb (by omega)) (b.block mb (by omega)), s.bel.trans (b.mono s.bel.size), s.n1, s.n2, s.n3, s.n4⟩
theorem LS.touchS {w u v : World} {g1 g2 pb mb : Nat} {si so : Eight} {Z zs zm zs' : List Int} (s : LS w u g1 g2 pb mb si so Z zs zm) (t : Touch u v g1 0 139) (h : Rep v g1 0 512 (wdOf 512) (firstE 512) 0 zs') : LS w v g1 g2 pb mb si so Z zs' zm := by
  have l := s.lts
  have n1 := s.n1
  have n2 := s.n2
  have n3 := s.n3
  have n4 := s.n4
  exact ⟨h, s.mr.far t (by omega), s.lp.blk (t.block pb (by omega) (by omega)) (t.block mb (by omega) (by omega)), s.bel.trans (t.toBelow (by omega) s.bel.size), s.n1, s.n2, s.n3, s.n4⟩
theorem LS.touchM {w u v : World} {g1 g2 pb mb : Nat} {si so : Eight} {Z zs zm zm' : List Int} (s : LS w u g1 g2 pb mb si so Z zs zm) (t : Touch u v g2 0 139) (h : MRep v g2 384 si so zm') : LS w v g1 g2 pb mb si so Z zs zm' := by
  have l := s.lts
  have n1 := s.n1
  have n2 := s.n2
  have n3 := s.n3
  have n4 := s.n4
  exact ⟨s.sr.far t (by omega), h, s.lp.blk (t.block pb (by omega) (by omega)) (t.block mb (by omega) (by omega)), s.bel.trans (t.toBelow (by omega) s.bel.size), s.n1, s.n2, s.n3, s.n4⟩
theorem LS.tables {w u : World} {g1 g2 pb mb : Nat} {si so : Eight} {Z zs zm : List Int} (s : LS w u g1 g2 pb mb si so Z zs zm) (hT : Tables w) : Tables u := hT.below s.bel hT.size
theorem size_allocf (u : World) (o : Obj) : (u.alloc o).heap.size = u.heap.size + 1 := by simp
/-- A literal of bytes as one part. -/
theorem ls_write (w u : World) (g1 g2 pb mb : Nat) (si so : Eight) (Z zs zm : List Int) (s : LS w u g1 g2 pb mb si so Z zs zm) (hT : Tables w) (ys : List Int) (f : Nat × Nat) (t : TypeId) (hl : ys.length ≤ 100) (hz : zs.length ≤ 100) :
    Calls Tryd.prog 24 #[.pointer (some ⟨g1, 0, none⟩), .slice (some ⟨u.heap.size + 1, 0, none⟩) 1 1] ((u.alloc (.cells (cellsU8 ys).toArray 5 f)).alloc (.cells #[.slice (some ⟨u.heap.size, 0, none⟩) ys.length ys.length] t)) fun e w' => Hid (e = .returned (.int .i64 0) ∧ LS w w' g1 g2 pb mb si so Z (zs ++ ys) zm) := by
  have l := s.lts
  have s1 := size_allocf u (.cells (cellsU8 ys).toArray 5 f)
  have s2 := s.below (below_two u (.cells (cellsU8 ys).toArray 5 f) (.cells #[.slice (some ⟨u.heap.size, 0, none⟩) ys.length ys.length] t))
  have n1 := s.n1
  have n2 := s.n2
  have n4 := s.n4
  have h4 := hT.size
  have q := swrite g1 512 (firstE 512) zs [ys] _ _ k512 s2.sr (parts1_alloc t (.slice (some ⟨u.heap.size, 0, none⟩) ys.length ys.length) ys g1 (view_lit u ys 5 f (by omega)) (by rw [s1]; omega) (fun _ b off l' c e => by injection e with e1 _ _; injection e1 with e1; injection e1 with e2 _; omega)) (s2.tables hT) (by omega) (by show _ ≤ _; simp; omega)
  rw [s1] at q
  refine q.mono ?_
  rintro e w' ⟨q1, q2, q3⟩
  exact ⟨q1, s2.touchS q2 (by simpa using q3)⟩
theorem ls_mwrite (w u : World) (g1 g2 pb mb : Nat) (si so : Eight) (Z zs zm : List Int) (s : LS w u g1 g2 pb mb si so Z zs zm) (hT : Tables w) (ys : List Int) (f : Nat × Nat) (t : TypeId) (hl : ys.length ≤ 100) (hz : zm.length ≤ 100) :
    Calls Tryd.prog 19 #[.pointer (some ⟨g2, 0, none⟩), .slice (some ⟨u.heap.size + 1, 0, none⟩) 1 1] ((u.alloc (.cells (cellsU8 ys).toArray 5 f)).alloc (.cells #[.slice (some ⟨u.heap.size, 0, none⟩) ys.length ys.length] t)) fun e w' => Hid (e = .returned (.int .i64 0) ∧ LS w w' g1 g2 pb mb si so Z zs (zm ++ ys)) := by
  have l := s.lts
  have s1 := size_allocf u (.cells (cellsU8 ys).toArray 5 f)
  have s2 := s.below (below_two u (.cells (cellsU8 ys).toArray 5 f) (.cells #[.slice (some ⟨u.heap.size, 0, none⟩) ys.length ys.length] t))
  have n1 := s.n1
  have n2 := s.n2
  have n3 := s.n3
  have n4 := s.n4
  have h4 := hT.size
  have q := mwrite g2 384 si so zm [ys] _ _ k384 s2.mr (parts1_alloc t (.slice (some ⟨u.heap.size, 0, none⟩) ys.length ys.length) ys g2 (view_lit u ys 5 f (by omega)) (by rw [s1]; omega) (fun _ b off l' c e => by injection e with e1 _ _; injection e1 with e1; injection e1 with e2 _; omega)) (s2.tables hT) (by omega) (by show _ ≤ _; simp; omega)
  rw [s1] at q
  refine q.mono ?_
  rintro e w' ⟨q1, q2, q3⟩
  exact ⟨q1, s2.touchM q2 (by simpa using q3)⟩
theorem ls_over (w u : World) (g1 g2 pb mb pc : Nat) (si so : Eight) (Z zs zm : List Int) (s : LS w u g1 g2 pb mb si so Z zs zm) (hZ : Z.length = 1048576) (hc : 32 ≤ pc) (hm : pc ≤ maxLen) (h0 : 0 < zs.length) (hz : zs.length ≤ 100) :
    Calls Tryd.prog 24 #[.pointer (some ⟨g1, 0, none⟩), .slice (some ⟨pb, 0, none⟩) 32 pc] u fun e w' => Hid (e = .returned (.int .i64 4) ∧ LS w w' g1 g2 pb mb si so Z zs zm) := by
  have n1 := s.n1
  have n2 := s.n2
  refine (swrite_over g1 512 (firstE 512) zs (List.replicate 32 Z) _ u s.sr (s.lp.parts pc hc hm g1 (by omega) (by omega)) (by show _ ≤ _; omega) (by show _ < _; rw [rep_flat, hZ]; omega)).mono ?_
  rintro e w' ⟨q1, rfl⟩
  exact ⟨q1, s⟩
theorem ls_mover (w u : World) (g1 g2 pb mb pc : Nat) (si so : Eight) (Z zs zm : List Int) (s : LS w u g1 g2 pb mb si so Z zs zm) (hZ : Z.length = 1048576) (hc : 32 ≤ pc) (hm : pc ≤ maxLen) (h0 : 0 < zm.length) (hz : zm.length ≤ 100) :
    Calls Tryd.prog 19 #[.pointer (some ⟨g2, 0, none⟩), .slice (some ⟨pb, 0, none⟩) 32 pc] u fun e w' => Hid (e = .returned (.int .i64 4) ∧ LS w w' g1 g2 pb mb si so Z zs zm) := by
  have n1 := s.n1
  have n2 := s.n2
  have n3 := s.n3
  refine (mwrite_over g2 384 si so zm (List.replicate 32 Z) _ u k384 s.mr (s.lp.parts pc hc hm g2 (by omega) (by omega)) (by show _ ≤ _; omega) (by show _ < _; rw [rep_flat, hZ]; omega)).mono ?_
  rintro e w' ⟨q1, q2⟩
  exact ⟨q1, s.below ⟨q2.os, q2.tape, q2.output, by rw [q2.heap]; exact Nat.le_refl _, fun q hq => by rw [q2.heap]⟩⟩
end Go.Proofs.YtkiclnmcdganaaaDoor
namespace Go.Proofs.YtkiclnmcdganaaaDoor
open Go.RowKit
set_option linter.unusedVariables false
set_option linter.unusedSimpArgs false
theorem owns_sl {w : World} {B n e s : Nat} {v : Value} {cs : List Value} (h : w.ownsRow B e s v n cs) : ∃ a c, v = .slice a n c := by
  rcases h.2 with ⟨rfl, e⟩ | ⟨g, c, cur, rfl, _⟩
  · exact ⟨none, 0, by rw [e]⟩
  · exact ⟨some ⟨g, 0, none⟩, c, rfl⟩
def DsP (u w' : World) (e : Ending) (n : Nat) (A : List Int) : Prop := ∃ b, e = .returned (.tuple #[.slice (some ⟨b, 0, none⟩) n n, .int .i64 0]) ∧ View w' (.slice (some ⟨b, 0, none⟩) n n) A ∧ Below u.heap.size u w'
def SvP (u w' : World) (e : Ending) (n : Nat) (A : List Int) : Prop := ∃ b, e = .returned (.slice (some ⟨b, 0, none⟩) n n) ∧ View w' (.slice (some ⟨b, 0, none⟩) n n) A ∧ Below u.heap.size u w'
theorem one_new (u : World) (x : Value) (t : TypeId) : ∀ j v, [x][j]? = some v → (u.alloc (.cells #[x] t)).cell? ((⟨u.heap.size, 0, none⟩ : Addr).add j) = some v := by
  intro j v hv
  have hj : j = 0 := by have := (List.getElem?_eq_some_iff.1 hv).1; simp at this; omega
  subst hj
  cases hv
  rw [Addr.add_lit, Nat.zero_add]
  exact rangeAt_new u #[x] t 0 _ rfl
set_option maxHeartbeats 6400000 in
set_option maxRecDepth 100000 in
/-- The law. -/
theorem lim_ok (w : World) (hT : Hid (Tables w)) : Calls Tryd.prog 6 #[] w fun e w' => Hid (e = .returned (.bool true) ∧ Below w.heap.size w w') := by
  have hT4 := hT.out.size
  obtain ⟨i0, hi0, hz0, hz1, hz2⟩ := info_parts Tryd.info5
  obtain ⟨i2, hj, hy0, hy1, hy2⟩ := info_parts Tryd.info22L
  have kc := fun (w : World) (C : Array Value) (n c : Nat) => Lib.run_convert_bytes_const (P := Tryd.prog) w 22 5 C n c Tryd.underlying22 Tryd.underlying5
  go_enter Tryd.func6, Tryd.ntmps6
  go_upto_region 2 with (first
    | (at_make; go_must (refine wpList_make_full _ rfl _ _ 22 rfl w.heap.size 5 i0 (.int .u8 0) 1 Tryd.underlying22 hi0 hz0 hz1 .i64 .i64 1048576 1048576 1048576 rfl rfl rfl rfl ?_ ?_ ?_ ?_); rw [hz2]; decide; unfold maxLen; decide; exact Nat.le_refl _; intro w1 hown hgrow)
    | fail)
  obtain ⟨Z, hZl, hZv⟩ := made_view w w1 1048576 w.heap.size hown (by decide)
  have HB1 : Hid (Below w.heap.size w w1) := (Below.refl _ _).grown hgrow (Nat.le_refl _) (by intro k hk; cases hk)
  have HZ1 : Hid (Z.length = 1048576 ∧ View w1 (mg w.heap.size) Z ∧ w.heap.size < w1.heap.size) := ⟨hZl, hZv, (hown.lt _ rfl).2⟩
  clear hown hgrow hZl hZv
  go_wp2
  go_loopw [2, 3] (fun vp vi wr => ∃ i pc : Nat, ∃ pa : Option Addr, i ≤ 32 ∧ vp = .slice pa i pc ∧ vi = .int .i64 (i : Nat) ∧ Hid (wr.ownsRow w1.heap.size 22 1 (.slice pa i pc) i (List.replicate i (mg w.heap.size)) ∧ Below w1.heap.size w1 wr)) (fun _ vi _ => 32 - (intOf vi).toNat)
  case atStart => exact ⟨0, 0, none, by omega, rfl, rfl, World.ownsRow_nil _ _ _ _, Below.refl _ _⟩
  case round =>
    obtain ⟨i, pc, pa, hi, rfl, rfl, HO⟩ := hrel
    by_cases hlt : i < 32
    · have hba := below_alloc1 wr (.cells #[mg w.heap.size] 22)
      have HOa : Hid ((wr.alloc (.cells #[mg w.heap.size] 22)).ownsRow w1.heap.size 22 1 (.slice pa i pc) i (List.replicate i (mg w.heap.size))) := owns_kept2 HO.out.1 hba
      have HBa : Hid (Below w1.heap.size w1 (wr.alloc (.cells #[mg w.heap.size] 22))) := HO.out.2.trans (hba.mono HO.out.2.size)
      have HNW : Hid (∀ j u, [mg w.heap.size][j]? = some u → (wr.alloc (.cells #[mg w.heap.size] 22)).cell? ((⟨wr.heap.size, 0, none⟩ : Addr).add j) = some u) := one_new wr (mg w.heap.size) 22
      clear hba
      go_wp2_with (first | (at_builtin; go_must (refine wpList_append_own_at _ rfl (.tmp 18) (.tmp 20) 56 rfl w1.heap.size 22 i2 (.slice none 0 0) 1 24 Tryd.underlying56 hj hy0 hy1 hy2 rfl (by decide) (.slice pa i pc) i (List.replicate i (mg w.heap.size)) rfl HOa.out ⟨wr.heap.size, 0, none⟩ 1 1 [mg w.heap.size] rfl rfl HNW.out (by intro u hu; simp at hu; subst hu; rfl) (by unfold maxLen; omega) (by omega) HBa.out.size ?_)))
      intro v6 w6 hown6 hgrow6 _ hat6
      obtain ⟨a6, c6, rfl⟩ := owns_sl hown6
      have HO6 : Hid (w6.ownsRow w1.heap.size 22 1 (.slice a6 (i + 1) c6) (i + 1) (List.replicate (i + 1) (mg w.heap.size)) ∧ Below w1.heap.size w1 w6) := by
        refine ⟨?_, HBa.out.grown hgrow6 HBa.out.size (fun b hb => (HOa.out.lt b hb).1)⟩
        rw [List.replicate_succ']
        exact hown6
      clear hown6 hgrow6 hat6 HOa HBa HNW HO
      go_wp2
      go_roundw
      case rel => exact ⟨i + 1, c6, a6, by omega, rfl, by go_num, HO6.out⟩
      case measure => simp [intOf]; omega
    · obtain rfl : i = 32 := by omega
      obtain ⟨pb, hpa⟩ : ∃ pb, pa = some ⟨pb, 0, none⟩ := by
        rcases HO.out.1.2 with ⟨h, h0⟩ | ⟨g, c, cur, he, _⟩
        · omega
        · injection he with he _ _; exact ⟨g, he⟩
      subst hpa
      have HPC : Hid (32 ≤ pc ∧ pc ≤ maxLen ∧ w1.heap.size ≤ pb ∧ pb < wr.heap.size) := by
        have l := HO.out.1.lt pb rfl
        rcases HO.out.1.2 with ⟨h, _⟩ | ⟨g, c, cur, he, h1, h2, h3, h4, _⟩
        · cases h
        · cases he; exact ⟨h3, h4, l.1, l.2⟩
      have hbb := below_two wr (.cells #[.int .u8 1] 5) (.cells #[.slice (some ⟨wr.heap.size, 0, none⟩) 1 1] 22)
      have HOb : Hid (((wr.alloc (.cells #[.int .u8 1] 5)).alloc (.cells #[.slice (some ⟨wr.heap.size, 0, none⟩) 1 1] 22)).ownsRow w1.heap.size 22 1 (.slice (some ⟨pb, 0, none⟩) 32 pc) 32 (List.replicate 32 (mg w.heap.size))) := owns_kept2 HO.out.1 hbb
      have HBb : Hid (Below w1.heap.size w1 ((wr.alloc (.cells #[.int .u8 1] 5)).alloc (.cells #[.slice (some ⟨wr.heap.size, 0, none⟩) 1 1] 22))) := HO.out.2.trans (hbb.mono HO.out.2.size)
      have HYb : Hid (((wr.alloc (.cells #[.int .u8 1] 5)).alloc (.cells #[.slice (some ⟨wr.heap.size, 0, none⟩) 1 1] 22)).cell? ⟨wr.heap.size + 1, 0, none⟩ = some (.slice (some ⟨wr.heap.size, 0, none⟩) 1 1)) := by
        have q := rangeAt_new (wr.alloc (.cells #[.int .u8 1] 5)) #[.slice (some ⟨wr.heap.size, 0, none⟩) 1 1] 22 0 _ rfl
        rw [size_alloc1] at q
        exact q
      have HVb : Hid (View ((wr.alloc (.cells #[.int .u8 1] 5)).alloc (.cells #[.slice (some ⟨wr.heap.size, 0, none⟩) 1 1] 22)) (.slice (some ⟨wr.heap.size, 0, none⟩) 1 1) [1]) := (view_one wr 1 5).kept fun q hq => (below_alloc1 (wr.alloc (.cells #[.int .u8 1] 5)) (.cells #[.slice (some ⟨wr.heap.size, 0, none⟩) 1 1] 22)).block q hq
      have HSb : Hid (((wr.alloc (.cells #[.int .u8 1] 5)).alloc (.cells #[.slice (some ⟨wr.heap.size, 0, none⟩) 1 1] 22)).heap.size = wr.heap.size + 2) := by show _ = _; simp
      clear hbb
      go_wp2_with (first | (at_builtin; go_must (refine wpList_append_keep rfl (.tmp 22) (.tmp 24) rfl w1.heap.size pb pc w.heap.size wr.heap.size (wr.heap.size + 1) rfl HOb.out rfl HYb.out (by rw [HSb.out]; have := HO.out.2.size; omega) ?_)))
      intro ob oc w5 hov
      have HX5 : Hid (OV w5 ob oc w.heap.size wr.heap.size Z ∧ LP w5 pb w.heap.size Z ∧ Below w.heap.size w w5 ∧ w.heap.size < pb ∧ pb < w5.heap.size ∧ ob < w5.heap.size ∧ wr.heap.size < w5.heap.size) := by
        obtain ⟨o1, o2, o3, o4, o5, o6, o7⟩ := hov
        have hp := HPC.out
        have hw := HZ1.out.2.2
        have hs := HSb.out
        have h7 := o7.size
        have hwr := HO.out.2.size
        have vz : View w5 (mg w.heap.size) Z := (HZ1.out.2.1.kept fun q hq => HBb.out.block q hq).blk' (fun b off e => by injection e with e; injection e with e _; subst e; exact o7.block _ (by omega) (fun e => by injection e with e; omega))
        have vy : View w5 (.slice (some ⟨wr.heap.size, 0, none⟩) 1 1) [1] := HVb.out.blk' (fun b off e => by injection e with e; injection e with e _; subst e; exact o7.block _ (by omega) (fun e => by injection e with e; omega))
        exact ⟨⟨o2, o3, vz, vy, o4, o5⟩, ⟨o1, vz⟩, (HB1.out.trans (HBb.out.mono (by omega))).grown o7 (by omega) (fun b hb => by injection hb with hb; omega), by omega, by omega, lt_of_cell o3, by omega⟩
      clear hov HOb HBb HYb HVb HSb HO HB1
      have HFL : Hid ((List.replicate 32 Z ++ [[1]]).flatten.length = 33554433) := by
        show _ = _
        rw [List.flatten_append, List.length_append, rep_flat, HZ1.out.1]
        rfl
      have HPT : Hid (∀ v u g, Below w5.heap.size w5 v → Below v.heap.size v u → v.heap.size ≤ g → Parts u g (.slice (some ⟨ob, 0, none⟩) 33 oc) (List.replicate 32 Z ++ [[1]])) := fun v u g h1 h2 h3 => by
        have hx := HX5.out.2.2
        have hs := h1.size
        exact ((HX5.out.1.below h1).below h2).parts g (by omega) (by omega) (by omega)
      have H17 : Hid (Calls Tryd.prog 17 #[.int .i64 256, .slice (some ⟨ob, 0, none⟩) 33 oc] w5 fun e w' => Hid (e = .returned (.tuple #[.slice none 0 0, .int .i64 4]) ∧ Below w5.heap.size w5 w')) := dsum_over 256 (List.replicate 32 Z ++ [[1]]) _ w5 k256 (fun u g h1 h2 => HPT.out w5 u g (Below.refl _ _) h1 h2) (hT.out.below HX5.out.2.2.1 hT4) (by show _ < _; rw [HFL.out]; decide)
      go_upto_region 9 with (go_at_call 17; refine H17.out.mono ?_; intro e6 w6 hh; obtain ⟨rfl, hb6⟩ := hh.out)
      have HB6 : Hid (Below w5.heap.size w5 w6) := hb6
      clear hh hb6 H17
      have H16 : Hid (Calls Tryd.prog 16 #[.int .i64 256, .slice none 0 0, .slice (some ⟨ob, 0, none⟩) 33 oc] w6 fun e w' => Hid (e = .returned (.tuple #[.slice none 0 0, .int .i64 4]) ∧ Below w6.heap.size w6 w')) := dcode_over 256 (.slice none 0 0) [] (List.replicate 32 Z ++ [[1]]) _ w6 k256 (view_nil _) (by show _ ≤ _; decide) (fun u g h1 h2 => HPT.out w6 u g HB6.out h1 h2) (hT.out.below (HX5.out.2.2.1.trans (HB6.out.mono HX5.out.2.2.1.size)) hT4) (by show _ < _; rw [HFL.out]; decide)
      go_upto_region 10 with (go_at_call 16; refine H16.out.mono ?_; intro e7 w7 hh; obtain ⟨rfl, hb7⟩ := hh.out)
      have HX7 : Hid (LP w7 pb w.heap.size Z ∧ Below w.heap.size w w7 ∧ w.heap.size < pb ∧ pb < w7.heap.size) := by
        have s6 := HB6.out.size
        have s7 := hb7.size
        have hx := HX5.out.2.2
        have b7 : ∀ q, q < w5.heap.size → w7.heap[q]? = w5.heap[q]? := fun q hq => (hb7.block q (by omega)).trans (HB6.out.block q hq)
        exact ⟨HX5.out.2.1.blk (b7 pb (by omega)) (b7 _ (by omega)), (HX5.out.2.2.1.trans (HB6.out.mono HX5.out.2.2.1.size)).trans (hb7.mono (by have := HX5.out.2.2.1.size; omega)), by omega, by omega⟩
      clear hh hb7 H16 HPT HFL HB6 HX5
      go_upto_region 12 with (go_at_call 11; refine (num_ok _ _).mono ?_; rintro e5 wx ⟨rfl, hwx⟩; obtain rfl := hwx.symm)
      have H22 : Hid (Calls Tryd.prog 22 #[.int .i64 512] w7 fun e w' => Hid (LsP w7 w' e)) := new_good 512 w7 k512 (hT.out.below HX7.out.2.1 hT4)
      go_upto_region 13 with (go_at_call 22; refine H22.out.mono ?_; intro e8 w8 hh; obtain ⟨g1, rfl, hg1, hr8, hb8⟩ := hh.out)
      have HX8 : Hid (LP w8 pb w.heap.size Z ∧ Below w.heap.size w w8 ∧ w.heap.size < pb ∧ pb < g1 ∧ g1 < w8.heap.size ∧ Rep w8 g1 0 512 (wdOf 512) (firstE 512) 0 []) := by
        have hx := HX7.out.2.2
        exact ⟨HX7.out.1.blk (hb8.block pb (by omega)) (hb8.block _ (by omega)), HX7.out.2.1.trans (hb8.mono HX7.out.2.1.size), by omega, by omega, hr8.lt, hr8⟩
      clear hh hg1 hr8 hb8 H22 HX7
      obtain ⟨si, HSI⟩ : ∃ si, Hid (si = stateOf 384 [107] 54) := ⟨_, rfl⟩
      obtain ⟨so, HSO⟩ : ∃ so, Hid (so = stateOf 384 [107] 92) := ⟨_, rfl⟩
      have H18 : Hid (Calls Tryd.prog 18 #[.int .i64 384, .slice (some ⟨w8.heap.size, 0, none⟩) 1 1] (w8.alloc (.cells #[.int .u8 107] 5 (1, 2))) fun e w' => Hid (LmP (w8.alloc (.cells #[.int .u8 107] 5 (1, 2))) w' e si so)) := by
        rw [HSI.out, HSO.out]
        exact newMac_any 384 _ [107] _ k384 (view_lit w8 [107] 5 (1, 2) (by decide)) (by decide) (hT.out.below (HX8.out.2.1.trans ((below_alloc1 w8 (.cells #[.int .u8 107] 5 (1, 2))).mono HX8.out.2.1.size)) hT4)
      go_upto_region 14 with (go_at_call 18; refine H18.out.mono ?_; intro e9 w9 hh; obtain ⟨g2, rfl, hg2, hm9, hb9⟩ := hh.out)
      have HS9 : Hid (LS w w9 g1 g2 pb w.heap.size si so Z [] []) := by
        have b8 := (below_alloc1 w8 (.cells #[.int .u8 107] 5 (1, 2)))
        have b89 : Below w8.heap.size w8 w9 := b8.trans (hb9.mono b8.size)
        have hx := HX8.out.2.2
        have s8 := b8.size
        exact ⟨hx.2.2.2.below b89, hm9, HX8.out.1.blk (b89.block pb (by omega)) (b89.block _ (by omega)), HX8.out.2.1.trans (b89.mono HX8.out.2.1.size), by omega, by omega, by omega, Nat.le_refl _⟩
      clear hh hg2 hm9 hb9 H18 HX8
      go_upto_region 16 with (go_at_call 11; refine (num_ok _ _).mono ?_; rintro e5 wx ⟨rfl, hwx⟩; obtain rfl := hwx.symm)
      have HZ : Hid (Z.length = 1048576) := HZ1.out.1
      have HPC2 : Hid (32 ≤ pc ∧ pc ≤ maxLen) := ⟨HPC.out.1, HPC.out.2.1⟩
      clear HZ1 HPC
      have C1 : Hid (∀ t, Calls Tryd.prog 24 #[.pointer (some ⟨g1, 0, none⟩), .slice (some ⟨w9.heap.size + 1, 0, none⟩) 1 1] ((w9.alloc (.cells #[.int .u8 97] 5 (1, 2))).alloc (.cells #[.slice (some ⟨w9.heap.size, 0, none⟩) 1 1] t)) fun e w' => Hid (e = .returned (.int .i64 0) ∧ LS w w' g1 g2 pb w.heap.size si so Z [97] [])) := fun t => ls_write w w9 g1 g2 pb w.heap.size si so Z [] [] HS9.out hT.out [97] (1, 2) t (by decide) (by decide)
      go_wp2_with (go_at_call 24; refine (C1.out _).mono ?_)
      intro e10 w10 hh
      obtain ⟨rfl, hs10⟩ := hh.out
      have HS10 : Hid (LS w w10 g1 g2 pb w.heap.size si so Z [97] []) := hs10
      clear hh hs10 HS9 C1
      have C2 : Hid (∀ t, Calls Tryd.prog 19 #[.pointer (some ⟨g2, 0, none⟩), .slice (some ⟨w10.heap.size + 1, 0, none⟩) 1 1] ((w10.alloc (.cells #[.int .u8 97] 5 (1, 2))).alloc (.cells #[.slice (some ⟨w10.heap.size, 0, none⟩) 1 1] t)) fun e w' => Hid (e = .returned (.int .i64 0) ∧ LS w w' g1 g2 pb w.heap.size si so Z [97] [97])) := fun t => ls_mwrite w w10 g1 g2 pb w.heap.size si so Z [97] [] HS10.out hT.out [97] (1, 2) t (by decide) (by decide)
      go_wp2_with (first | (go_at_call 11; refine (num_ok _ _).mono ?_; rintro e5 wx ⟨rfl, hwx⟩; obtain rfl := hwx.symm) | (go_at_call 19; refine (C2.out _).mono ?_))
      intro e11 w11 hh
      obtain ⟨rfl, hs11⟩ := hh.out
      have HS11 : Hid (LS w w11 g1 g2 pb w.heap.size si so Z [97] [97]) := hs11
      clear hh hs11 HS10 C2
      have C3 : Hid (Calls Tryd.prog 24 #[.pointer (some ⟨g1, 0, none⟩), .slice (some ⟨pb, 0, none⟩) 32 pc] w11 fun e w' => Hid (e = .returned (.int .i64 4) ∧ LS w w' g1 g2 pb w.heap.size si so Z [97] [97])) := ls_over w w11 g1 g2 pb w.heap.size pc si so Z [97] [97] HS11.out HZ.out HPC2.out.1 HPC2.out.2 (by decide) (by decide)
      go_wp2_with (first | (go_at_call 11; refine (num_ok _ _).mono ?_; rintro e5 wx ⟨rfl, hwx⟩; obtain rfl := hwx.symm) | (go_at_call 24; refine C3.out.mono ?_))
      intro e12 w12 hh
      obtain ⟨rfl, hs12⟩ := hh.out
      have HS12 : Hid (LS w w12 g1 g2 pb w.heap.size si so Z [97] [97]) := hs12
      clear hh hs12 HS11 C3
      have C4 : Hid (Calls Tryd.prog 19 #[.pointer (some ⟨g2, 0, none⟩), .slice (some ⟨pb, 0, none⟩) 32 pc] w12 fun e w' => Hid (e = .returned (.int .i64 4) ∧ LS w w' g1 g2 pb w.heap.size si so Z [97] [97])) := ls_mover w w12 g1 g2 pb w.heap.size pc si so Z [97] [97] HS12.out HZ.out HPC2.out.1 HPC2.out.2 (by decide) (by decide)
      go_wp2_with (first | (go_at_call 11; refine (num_ok _ _).mono ?_; rintro e5 wx ⟨rfl, hwx⟩; obtain rfl := hwx.symm) | (go_at_call 19; refine C4.out.mono ?_))
      intro e13 w13 hh
      obtain ⟨rfl, hs13⟩ := hh.out
      have HS13 : Hid (LS w w13 g1 g2 pb w.heap.size si so Z [97] [97]) := hs13
      clear hh hs13 HS12 C4 HPC2
      have HCN : Hid (Calls Tryd.prog 27 #[.pointer (some ⟨g1, 0, none⟩)] w13 fun e w' => e = .returned (.int .u64 (1 : Nat)) ∧ w' = w13) := scount g1 1 w13 (by
        obtain ⟨half, hk, _⟩ := HS13.out.sr
        simpa using hk.fed)
      have C5 : Hid (∀ t, Calls Tryd.prog 24 #[.pointer (some ⟨g1, 0, none⟩), .slice (some ⟨w13.heap.size + 1, 0, none⟩) 1 1] ((w13.alloc (.cells #[.int .u8 98, .int .u8 99] 5 (2, 3))).alloc (.cells #[.slice (some ⟨w13.heap.size, 0, none⟩) 2 2] t)) fun e w' => Hid (e = .returned (.int .i64 0) ∧ LS w w' g1 g2 pb w.heap.size si so Z [97, 98, 99] [97])) := fun t => ls_write w w13 g1 g2 pb w.heap.size si so Z [97] [97] HS13.out hT.out [98, 99] (2, 3) t (by decide) (by decide)
      go_wp2_with (first | (go_at_call 11; refine (num_ok _ _).mono ?_; rintro e5 wx ⟨rfl, hwx⟩; obtain rfl := hwx.symm) | (go_at_call 27; refine HCN.out.mono ?_; rintro e5 wx ⟨rfl, hwx⟩; obtain rfl := hwx.symm) | (go_at_call 24; refine (C5.out _).mono ?_))
      intro e14 w14 hh
      obtain ⟨rfl, hs14⟩ := hh.out
      have HS14 : Hid (LS w w14 g1 g2 pb w.heap.size si so Z [97, 98, 99] [97]) := hs14
      clear hh hs14 HS13 C5 HCN
      have C6 : Hid (∀ t, Calls Tryd.prog 19 #[.pointer (some ⟨g2, 0, none⟩), .slice (some ⟨w14.heap.size + 1, 0, none⟩) 1 1] ((w14.alloc (.cells #[.int .u8 98, .int .u8 99] 5 (2, 3))).alloc (.cells #[.slice (some ⟨w14.heap.size, 0, none⟩) 2 2] t)) fun e w' => Hid (e = .returned (.int .i64 0) ∧ LS w w' g1 g2 pb w.heap.size si so Z [97, 98, 99] [97, 98, 99])) := fun t => ls_mwrite w w14 g1 g2 pb w.heap.size si so Z [97, 98, 99] [97] HS14.out hT.out [98, 99] (2, 3) t (by decide) (by decide)
      go_wp2_with (first | (go_at_call 11; refine (num_ok _ _).mono ?_; rintro e5 wx ⟨rfl, hwx⟩; obtain rfl := hwx.symm) | (go_at_call 19; refine (C6.out _).mono ?_))
      intro e15 w15 hh
      obtain ⟨rfl, hs15⟩ := hh.out
      have HS15 : Hid (LS w w15 g1 g2 pb w.heap.size si so Z [97, 98, 99] [97, 98, 99]) := hs15
      clear hh hs15 HS14 C6
      obtain ⟨abc, HABC⟩ : ∃ abc : List Int, Hid (abc = [97, 98, 99]) := ⟨_, rfl⟩
      have HS : Hid (LS w w15 g1 g2 pb w.heap.size si so Z abc abc) := by rw [HABC.out]; exact HS15.out
      have HAL : Hid (abc.length = 3) := by rw [HABC.out]; rfl
      clear HS15
      obtain ⟨A, HA⟩ : ∃ A, Hid (A = dig 512 abc) := ⟨_, rfl⟩
      obtain ⟨B, HB⟩ : ∃ B, Hid (B = macL 384 si so abc) := ⟨_, rfl⟩
      have D1 : Hid (∀ t, Calls Tryd.prog 17 #[.int .i64 512, .slice (some ⟨w15.heap.size + 1, 0, none⟩) 1 1] ((w15.alloc (.cells #[.int .u8 97, .int .u8 98, .int .u8 99] 5 (3, 4))).alloc (.cells #[.slice (some ⟨w15.heap.size, 0, none⟩) 3 3] t)) fun e w' => Hid (DsP w15 w' e 64 A)) := fun t => by
        have b1 := below_alloc1 w15 (.cells #[.int .u8 97, .int .u8 98, .int .u8 99] 5 (3, 4))
        have s1 := size_allocf w15 (.cells #[.int .u8 97, .int .u8 98, .int .u8 99] 5 (3, 4))
        have q := dsum1 (h := 512) k512 (w15.alloc (.cells #[.int .u8 97, .int .u8 98, .int .u8 99] 5 (3, 4))) t (.slice (some ⟨w15.heap.size, 0, none⟩) 3 3) [97, 98, 99] (view_lit w15 [97, 98, 99] 5 (3, 4) (by decide)) ((HS.out.below b1).tables hT.out) (by decide)
        rw [s1] at q
        refine q.mono ?_
        rintro e w' ⟨b, q1, _, _, q4, q5⟩
        rw [HA.out, HABC.out]
        exact ⟨b, q1, q4, b1.trans (q5.mono (by omega))⟩
      go_wp2_with (first | (go_at_call 11; refine (num_ok _ _).mono ?_; rintro e5 wx ⟨rfl, hwx⟩; obtain rfl := hwx.symm) | (go_at_call 17; refine (D1.out _).mono ?_))
      intro e16 w16 hh
      obtain ⟨bc, rfl, hv16, hb16⟩ := hh.out
      have HS16 : Hid (LS w w16 g1 g2 pb w.heap.size si so Z abc abc ∧ View w16 (.slice (some ⟨bc, 0, none⟩) 64 64) A) := ⟨HS.out.below hb16, hv16⟩
      clear hh hv16 hb16 HS D1
      have D2 : Hid (∀ t, Calls Tryd.prog 16 #[.int .i64 384, .slice (some ⟨w16.heap.size, 0, none⟩) 1 1, .slice (some ⟨w16.heap.size + 1 + 1, 0, none⟩) 1 1] (((w16.alloc (.cells #[.int .u8 107] 5 (1, 2))).alloc (.cells #[.int .u8 97, .int .u8 98, .int .u8 99] 5 (3, 4))).alloc (.cells #[.slice (some ⟨w16.heap.size + 1, 0, none⟩) 3 3] t)) fun e w' => Hid (DsP w16 w' e 48 B)) := fun t => by
        have b1 := below_alloc1 w16 (.cells #[.int .u8 107] 5 (1, 2))
        have s1 := size_allocf w16 (.cells #[.int .u8 107] 5 (1, 2))
        have b2 := below_alloc1 (w16.alloc (.cells #[.int .u8 107] 5 (1, 2))) (.cells #[.int .u8 97, .int .u8 98, .int .u8 99] 5 (3, 4))
        have s2 := size_allocf (w16.alloc (.cells #[.int .u8 107] 5 (1, 2))) (.cells #[.int .u8 97, .int .u8 98, .int .u8 99] 5 (3, 4))
        have v2 := view_lit (w16.alloc (.cells #[.int .u8 107] 5 (1, 2))) [97, 98, 99] 5 (3, 4) (by decide)
        rw [s1] at v2 s2
        have q := dcode1 (h := 384) k384 ((w16.alloc (.cells #[.int .u8 107] 5 (1, 2))).alloc (.cells #[.int .u8 97, .int .u8 98, .int .u8 99] 5 (3, 4))) t (.slice (some ⟨w16.heap.size, 0, none⟩) 1 1) [107] (.slice (some ⟨w16.heap.size + 1, 0, none⟩) 3 3) [97, 98, 99] ((view_lit w16 [107] 5 (1, 2) (by decide)).kept fun q hq => b2.block q hq) (by decide) v2 (((HS16.out.1.below b1).below b2).tables hT.out) (by decide)
        rw [s2] at q
        refine q.mono ?_
        rintro e w' ⟨b, q1, _, _, q4, q5⟩
        rw [HB.out, HABC.out, HSI.out, HSO.out]
        exact ⟨b, q1, q4, (b1.trans (b2.mono b1.size)).trans (q5.mono (by omega))⟩
      have kc2 : ∀ (w : World) (o : Obj) (C : Array Value) (n c : Nat), (convert 22 22 (.slice (some ⟨w.heap.size + 1, 0, none⟩) n c)).run Tryd.prog ((w.alloc o).alloc (.cells C 5)) = .ok (.slice (some ⟨w.heap.size + 1, 0, none⟩) n c) ((w.alloc o).alloc (.cells C 5 (C.size, C.size + 1))) := fun w o C n c => by
        have q := kc (w.alloc o) C n c
        rw [size_alloc1] at q
        exact q
      go_wp2_with (first | (go_at_call 11; refine (num_ok _ _).mono ?_; rintro e5 wx ⟨rfl, hwx⟩; obtain rfl := hwx.symm) | (go_at_call 16; refine (D2.out _).mono ?_))
      intro e17 w17 hh
      obtain ⟨bd, rfl, hv17, hb17⟩ := hh.out
      have HS17 : Hid (LS w w17 g1 g2 pb w.heap.size si so Z abc abc ∧ View w17 (.slice (some ⟨bc, 0, none⟩) 64 64) A ∧ View w17 (.slice (some ⟨bd, 0, none⟩) 48 48) B) := ⟨HS16.out.1.below hb17, HS16.out.2.kept fun q hq => hb17.block q hq, hv17⟩
      clear hh hv17 hb17 HS16 D2 HSI HSO
      have E1 : Hid (Calls Tryd.prog 26 #[.pointer (some ⟨g1, 0, none⟩)] w17 fun e w' => Hid (SvP w17 w' e 64 A)) := by
        refine (ssum g1 512 (firstE 512) abc w17 k512 HS17.out.1.sr (HS17.out.1.tables hT.out) (by show _ ≤ _; rw [HAL.out]; decide)).mono ?_
        rintro e w' ⟨b, q1, ho, hb⟩
        rw [HA.out]
        exact ⟨b, q1, owns_view (by rw [dig_length k512]) ho, hb⟩
      go_wp2_with (first | (go_at_call 11; refine (num_ok _ _).mono ?_; rintro e5 wx ⟨rfl, hwx⟩; obtain rfl := hwx.symm) | (go_at_call 26; refine E1.out.mono ?_))
      intro e18 w18 hh
      obtain ⟨be, rfl, hv18, hb18⟩ := hh.out
      have HS18 : Hid (LS w w18 g1 g2 pb w.heap.size si so Z abc abc ∧ View w18 (.slice (some ⟨bd, 0, none⟩) 48 48) B) := ⟨HS17.out.1.below hb18, HS17.out.2.2.kept fun q hq => hb18.block q hq⟩
      have E2 : Hid (Calls Tryd.prog 12 #[.slice (some ⟨be, 0, none⟩) 64 64, .slice (some ⟨bc, 0, none⟩) 64 64] w18 fun e w' => Hid (e = .returned (.bool true) ∧ Below w18.heap.size w18 w')) := by
        refine (same_yes _ _ A w18 hv18 (HS17.out.2.1.kept fun q hq => hb18.block q hq)).mono ?_
        rintro e w' ⟨q1, q2⟩
        exact ⟨q1, q2.os, q2.tape, q2.output, by rw [q2.heap]; exact Nat.le_refl _, fun q hq => by rw [q2.heap]⟩
      clear hh hv18 hb18 HS17 E1
      go_wp2_with (go_at_call 12; refine E2.out.mono ?_)
      intro e19 w19 hh
      obtain ⟨rfl, hb19⟩ := hh.out
      have HS19 : Hid (LS w w19 g1 g2 pb w.heap.size si so Z abc abc ∧ View w19 (.slice (some ⟨bd, 0, none⟩) 48 48) B) := ⟨HS18.out.1.below hb19, HS18.out.2.kept fun q hq => hb19.block q hq⟩
      clear hh hb19 HS18 E2
      have E3 : Hid (Calls Tryd.prog 21 #[.pointer (some ⟨g2, 0, none⟩)] w19 fun e w' => Hid (SvP w19 w' e 48 B)) := by
        refine (msum g2 384 si so abc w19 k384 HS19.out.1.mr (HS19.out.1.tables hT.out) (by show _ ≤ _; rw [HAL.out]; decide)).mono ?_
        rintro e w' ⟨b, q1, ho, hb⟩
        rw [HB.out]
        exact ⟨b, q1, owns_view (by rw [macL_length k384]) ho, hb⟩
      go_wp2_with (go_at_call 21; refine E3.out.mono ?_)
      intro e20 w20 hh
      obtain ⟨bf, rfl, hv20, hb20⟩ := hh.out
      have HB20 : Hid (Below w.heap.size w w20) := HS19.out.1.bel.trans (hb20.mono HS19.out.1.bel.size)
      have E4 : Hid (Calls Tryd.prog 12 #[.slice (some ⟨bf, 0, none⟩) 48 48, .slice (some ⟨bd, 0, none⟩) 48 48] w20 fun e w' => Hid (e = .returned (.bool true) ∧ Below w20.heap.size w20 w')) := by
        refine (same_yes _ _ B w20 hv20 (HS19.out.2.kept fun q hq => hb20.block q hq)).mono ?_
        rintro e w' ⟨q1, q2⟩
        exact ⟨q1, q2.os, q2.tape, q2.output, by rw [q2.heap]; exact Nat.le_refl _, fun q hq => by rw [q2.heap]⟩
      clear hh hv20 hb20 HS19 E3
      go_wp2_with (go_at_call 12; refine E4.out.mono ?_)
      intro e21 w21 hh
      obtain ⟨rfl, hb21⟩ := hh.out
      have HB21 : Hid (Below w.heap.size w w21) := HB20.out.trans (hb21.mono HB20.out.size)
      clear hh hb21 HB20 E4
      go_wp2_with (first
        | (at_make; go_must (refine make_wanted _ (by simp [Region.wanted, yielded, Act.put]) _ _ 22 rfl w.heap.size 5 i0 (.int .u8 0) 1 Tryd.underlying22 hi0 hz0 hz1 .i64 .i64 8388609 8388609 8388609 rfl rfl rfl rfl ?_ ?_ ?_ ?_)))
      · rw [hz2]; decide
      · unfold maxLen; decide
      · exact HB21.out.size
      intro w22 hown hgr
      have HB22 : Hid (Below w.heap.size w w22) := HB21.out.grown hgr HB21.out.size (by intro k hk; cases hk)
      clear hown hgr
      go_wp2_with (first
        | (go_at_call 30; refine (hex_long _ _).mono ?_; rintro e5 wx ⟨rfl, hwx⟩; obtain rfl := hwx.symm)
        | (at_make; go_must (refine make_wanted _ (by simp [Region.wanted, yielded, Act.put]) _ _ 22 rfl w.heap.size 5 i0 (.int .u8 0) 1 Tryd.underlying22 hi0 hz0 hz1 .i64 .i64 12582913 12582913 12582913 rfl rfl rfl rfl ?_ ?_ ?_ ?_)))
      · rw [hz2]; decide
      · unfold maxLen; decide
      · exact HB22.out.size
      intro w23 hown hgr
      have HB23 : Hid (Below w.heap.size w w23) := HB22.out.grown hgr HB22.out.size (by intro k hk; cases hk)
      clear hown hgr
      go_wp2_with (first
        | (go_at_call 31; refine (b64_long _ _).mono ?_; rintro e5 wx ⟨rfl, hwx⟩; obtain rfl := hwx.symm))
      go_ret
      exact ⟨rfl, HB23.out⟩
end Go.Proofs.YtkiclnmcdganaaaDoor
