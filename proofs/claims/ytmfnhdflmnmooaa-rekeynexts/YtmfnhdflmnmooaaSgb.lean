import Derived.Test.YtmfnhdflmnmooaaSga
import Derived.RangeFuncFrom
namespace Go.Proofs.Ytmfnhdflmnmooaa.Sx
open Go.RowKit Go.Shelf
set_option linter.unusedVariables false
attribute [local go_sem] Oper.semAt_some
theorem info53 : (Try.prog.info? 65).map (fun i => (i.zero, i.size, i.bytes)) = some (some (.agg #[.int .u64 0, .int .u64 0, .int .u64 0]), 3, 24) := by kernel_rfl
def Item (W : World) (B : Nat) (x : Sg) : Prop := W.heap[B]? = some (.cells #[.int .u64 (x.1 : Nat), .int .u64 (x.2.1 : Nat), .int .u64 (x.2.2 : Nat)] 65 (0, 0))
theorem Item.lt {W : World} {B : Nat} {x : Sg} (h : Item W B x) : B < W.heap.size := (Array.getElem?_eq_some_iff.1 h).1
theorem Item.c0 {W : World} {B : Nat} {x : Sg} (h : Item W B x) : W.cell? ⟨B, 0, none⟩ = some (.int .u64 (x.1 : Nat)) := by simp [World.cell?, show W.heap[B]? = _ from h]
theorem Item.c1 {W : World} {B : Nat} {x : Sg} (h : Item W B x) : W.cell? ⟨B, 1, none⟩ = some (.int .u64 (x.2.1 : Nat)) := by simp [World.cell?, show W.heap[B]? = _ from h]
theorem Item.c2 {W : World} {B : Nat} {x : Sg} (h : Item W B x) : W.cell? ⟨B, 2, none⟩ = some (.int .u64 (x.2.2 : Nat)) := by simp [World.cell?, show W.heap[B]? = _ from h]
theorem Item.new (W : World) (x : Sg) : Item (W.alloc (.cells #[.int .u64 (x.1 : Nat), .int .u64 (x.2.1 : Nat), .int .u64 (x.2.2 : Nat)] 65)) W.heap.size x := World.alloc_heap_new W _
theorem Item.kept {W W' : World} {row : Option Nat} {B : Nat} {x : Sg} (h : Item W B x) (hg : W.grownBy W' row) (hne : some B ≠ row) : Item W' B x := (hg.block B h.lt hne).trans h
theorem Item.own {X Y : World} {row : Option Nat} {B : Nat} {x : Sg} (h : Item X B x) (hg : X.grownBy Y row) (hrow : ∀ r, row = some r → ∃ o : Obj, X.heap[r]? = some o ∧ o.isCells = false) : Item Y B x := by
  refine h.kept hg (fun e' => ?_)
  obtain ⟨o, ho, hc⟩ := hrow B e'.symm
  rw [show X.heap[B]? = _ from h] at ho; cases ho; cases hc
theorem rangeNew (w : World) (cs : Array Value) (t : TypeId) (j : Nat) (v : Value) (h : cs[j]? = some v) : (w.alloc (.cells cs t)).cell? ⟨w.heap.size, j, none⟩ = some v := by
  have hh := World.alloc_heap_new w (.cells cs t)
  simp only [World.cell?]
  rw [hh]
  exact h
theorem three_new (w : World) (a b c : Value) (t : TypeId) : ∀ j u, [a, b, c][j]? = some u → (w.alloc (.cells #[a, b, c] t)).cell? ((⟨w.heap.size, 0, none⟩ : Addr).add j) = some u := by
  intro j u hj
  match j, hj with
  | 0, hj => simp at hj; subst hj; exact rangeNew w _ t _ _ rfl
  | 1, hj => simp at hj; subst hj; exact rangeNew w _ t _ _ rfl
  | 2, hj => simp at hj; subst hj; exact rangeNew w _ t _ _ rfl
def sgs (xs : List Sg) : List Value := xs.flatMap sgL
theorem sgs_snoc (pre : List Sg) (x : Sg) : sgs (pre ++ [x]) = sgs pre ++ sgL x := by simp [sgs]
theorem sgs_len (xs : List Sg) : (sgs xs).length = xs.length * 3 := by
  induction xs with
  | nil => rfl
  | cons x xs ih => simp [sgs] at ih ⊢; omega
set_option maxRecDepth 100000 in
set_option maxHeartbeats 4000000 in
theorem listed_in (F : Fence) (n : Nat) (h12 : F.fn 23) (h23 : F.fn 53) (hro : F.round = none) (hn : 3 ≤ n) (g : Nat) (x y : Sg) (w : World) (hg : g < w.heap.size)
    (c0 : w.cell? ⟨g, 0, none⟩ = some (.int .u64 (x.1 : Nat))) (c1 : w.cell? ⟨g, 1, none⟩ = some (.int .u64 (x.2.1 : Nat))) (c2 : w.cell? ⟨g, 2, none⟩ = some (.int .u64 (x.2.2 : Nat)))
    (c3 : w.cell? ⟨g, 3, none⟩ = some (.int .u64 (y.1 : Nat))) (c4 : w.cell? ⟨g, 4, none⟩ = some (.int .u64 (y.2.1 : Nat))) (c5 : w.cell? ⟨g, 5, none⟩ = some (.int .u64 (y.2.2 : Nat))) :
    CallsIn F n Try.prog 23 #[.func (.func 53) #[] #[.pointer (some ⟨g, 0, none⟩)]] w fun e W' => ∃ v, e = .returned v ∧ W'.ownsRow w.heap.size 65 3 v (kept [x, y]).length (sgs (kept [x, y])) ∧ (v = .slice none 0 0 ↔ kept [x, y] = []) ∧ Below w.heap.size w W' := by
  have h1 : 1 ≤ n := by omega
  obtain ⟨i0, hi, hz0, hz1, hz2⟩ := info_parts info53
  refine callsIn_of_wp_marks Try.func23 rfl h12 ?_ hro
  simp only [Try.ntmps23, List.size_toArray, List.length_cons, List.length_nil, Nat.reduceAdd, Nat.reduceSub, Array.replicate_succ, Array.replicate_zero, List.push_toArray, List.append_toArray, List.nil_append, List.cons_append]
  gi_wp2
  have bO := Boxed.new w 29 (.slice none 0 0)
  have hB0 : Below w.heap.size w (w.alloc (.cells #[.slice none 0 0] 29)) := (Below.refl _ w).alloc (Nat.le_refl _) _
  have k : ∀ (o : Nat) (v : Value), w.cell? ⟨g, o, none⟩ = some v → (w.alloc (.cells #[.slice none 0 0] 29)).cell? ⟨g, o, none⟩ = some v := fun o v h => (hB0.cell (p := ⟨g, o, none⟩) hg).trans h
  refine wpIn_rangeFunc_ownH hro h1 (gf := 53) (lb := #[.pointer (some ⟨g, 0, none⟩)]) rfl h23 (enters_of Try.func53 (by kernel_rfl) rfl)
    (seg_stops F (n - 1) h23 hro (by omega) g x y (Below w.heap.size) (w.alloc (.cells #[.slice none 0 0] 29)) (by simp; omega) (k _ _ c0) (k _ _ c1) (k _ _ c2) (k _ _ c3) (k _ _ c4) (k _ _ c5)) belowK_t (belowK_b (by simp)) (Below.refl _ _) (fun _ => rfl)
    (fun pre W => (∃ v, Boxed W w.heap.size 29 v ∧ W.ownsRow w.heap.size 65 3 v pre.length (sgs pre) ∧ (v = .slice none 0 0 ↔ pre = [])) ∧ Below w.heap.size w W)
    (fun _ _ _ => False)
    (OwnFrom.and (Own.from (holdsRow_own w.heap.size w.heap.size 29 65 3 (fun pre : List Sg => pre.length) (fun pre => sgs pre) (fun pre v => v = .slice none 0 0 ↔ pre = [])) _) (ownFrom_below (Nat.le_refl _) (by simp)))
    (fun _ _ _ _ _ hs _ _ => hs)
    ⟨⟨_, bO, World.ownsRow_nil _ _ _ _, by simp⟩, hB0⟩
    (fun x a' W => ∃ Bx, w.heap.size < Bx ∧ Item W Bx x ∧ a' = { tmps := #[.func (.func 53) #[] #[.pointer (some ⟨g, 0, none⟩)], undef, .slice none 0 0, .pointer (some ⟨w.heap.size, 0, none⟩), .pointer (some ⟨Bx, 0, none⟩), .func (.func 53) #[] #[.pointer (some ⟨g, 0, none⟩)], sgV x, undef, undef, undef, undef, undef], defers := [] })
    (fun x a' _ X Y row hs hg hr => by obtain ⟨Bx, h1, h2, h3⟩ := hs; exact ⟨Bx, h1, h2.own hg (fun r e => (hr r e).2), h3⟩)
    ?assign ?body ?done ?stop
  case assign =>
    rintro l pre z W K ⟨⟨v, hv, hrow, hnil⟩, hB⟩ hK
    gi_wp2
    exact hK _ _ ((KeepsOthers.alloc _ _).from _) ((Below.refl _ W).alloc hB.size _) ⟨⟨v, hv.alloc _, hrow.alloc _, hnil⟩, hB.alloc hB.size _⟩ ⟨W.heap.size, hv.lt, Item.new W z, rfl⟩
  case body =>
    rintro l pre z a' W hl ⟨r, hr⟩ ⟨⟨v, hv, hrow, hnil⟩, hB⟩ ⟨Bx, hBx, bX, rfl⟩ hlt
    have hc := hv.cell
    have d0 := bX.c0
    have d1 := bX.c1
    have d2 := bX.c2
    gi_wp2_with (gi_at_builtin; refine wpListIn_append_own _ rfl _ _ 29 rfl w.heap.size 65 i0 (.agg #[.int .u64 0, .int .u64 0, .int .u64 0]) 3 24 Try.underlying29 hi hz0 hz1 hz2 rfl (by decide) _ _ _ rfl (hrow.alloc _) ⟨W.heap.size, 0, none⟩ 1 1 (sgL z) rfl rfl (three_new _ _ _ _ _) (by simp [Value.oneCell']) (by unfold maxLen; omega) (by omega) (by have := hB.size; simp; omega) ?_; intro v' w1 hown' hgrow _; obtain ⟨g', cap', rfl⟩ := ownsRow_succ hown'; obtain ⟨hv1, hv2, hr2, hk2, hb2⟩ := hv.appended (by decide) hrow hB.size (Nat.le_refl _) hown' hgrow; have hc1 := hv1.cell; have hf1 := hv1.frozen)
    exact ⟨hk2.from _, hb2, ⟨_, hv2, by rw [sgs_snoc]; simpa using hr2, by simp⟩, hB.trans hb2⟩
  case done =>
    rintro D ys W hD rfl ⟨⟨v, hv, hrow, hnil⟩, hB⟩ hK
    have hc := hv.cell
    gi_wp2
    refine ⟨by simp, .inl ⟨_, _, rfl, run_takeDeferred hK, ?_⟩⟩
    exact ⟨_, results_tmp rfl _ _ _, v, rfl, ownsRow_putObj hrow _ hK rfl, hnil, hB.trans (belowK_b (w := w) (Nat.le_refl _) W D _ _ (by simp at hD; omega) hK rfl rfl)⟩
  case stop =>
    rintro D c pre W _ _ h _
    exact h.elim
theorem listed_ok (g : Nat) (x y : Sg) (w : World) (hg : g < w.heap.size)
    (c0 : w.cell? ⟨g, 0, none⟩ = some (.int .u64 (x.1 : Nat))) (c1 : w.cell? ⟨g, 1, none⟩ = some (.int .u64 (x.2.1 : Nat))) (c2 : w.cell? ⟨g, 2, none⟩ = some (.int .u64 (x.2.2 : Nat)))
    (c3 : w.cell? ⟨g, 3, none⟩ = some (.int .u64 (y.1 : Nat))) (c4 : w.cell? ⟨g, 4, none⟩ = some (.int .u64 (y.2.1 : Nat))) (c5 : w.cell? ⟨g, 5, none⟩ = some (.int .u64 (y.2.2 : Nat))) :
    Calls Try.prog 23 #[.func (.func 53) #[] #[.pointer (some ⟨g, 0, none⟩)]] w fun e W' => ∃ v, e = .returned v ∧ W'.ownsRow w.heap.size 65 3 v (kept [x, y]).length (sgs (kept [x, y])) ∧ (v = .slice none 0 0 ↔ kept [x, y] = []) ∧ Below w.heap.size w W' :=
  (callsIn_wide (n := 3)).1 (listed_in _ 3 trivial trivial rfl (by omega) g x y w hg c0 c1 c2 c3 c4 c5)
end Go.Proofs.Ytmfnhdflmnmooaa.Sx
