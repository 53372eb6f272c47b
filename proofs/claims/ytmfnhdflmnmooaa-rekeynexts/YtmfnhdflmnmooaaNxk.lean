import Derived.Test.YtmfnhdflmnmooaaNxj
import Derived.Test.YtmfnhdflmnmooaaSgc
import Derived.RangeFuncBox
import Derived.RangeFuncFrom
import Derived.Laws.Rows
import Derived.Sort.QuietIn
namespace Go.Proofs.Ytmfnhdflmnmooaa
open Go.RowKit Go.Shelf
set_option linter.unusedVariables false
set_option linter.unusedSimpArgs false
attribute [local go_sem] Oper.semAt_some
theorem boxed_own {X Y : World} {row : Option Nat} {B : Nat} {t : TypeId} {v : Value} (h : Boxed X B t v) (hg : X.grownBy Y row) (hrow : ∀ r, row = some r → ∃ o : Obj, X.heap[r]? = some o ∧ o.isCells = false) : Boxed Y B t v := by
  refine h.kept hg (fun e' => ?_)
  obtain ⟨o, ho, hc⟩ := hrow B e'.symm
  rw [show X.heap[B]? = _ from h] at ho; cases ho; cases hc
/-- A segment's three numbers. -/
def cst (x : Sx.Sg) : Int × Int × Int := ((x.1 : Nat), (x.2.1 : Nat), (x.2.2 : Nat))
/-- The items begin with these. -/
def Mpre (n : Nat) (f : Nat → Int × Int × Int) (pre : List Sx.Sg) : Prop := pre.length ≤ n ∧ ∀ i x, pre[i]? = some x → f i = cst x
/-- What is left of the items lies in its box. -/
def Rest (W : World) (B G O n k : Nat) : Prop := ∃ p' c', Boxed W B 29 (.slice p' (n - k) c') ∧ n - k ≤ c' ∧ c' ≤ 9223372036854775807 ∧ (k < n → p' = some ⟨G, O + k * 3, none⟩)
def JustP (n : Nat) (f : Nat → Int × Int × Int) (L : List Sx.Sg) : Prop := L.length = n ∧ ∀ i x, L[i]? = some x → f i = cst x
theorem mpre_nil (n : Nat) (f : Nat → Int × Int × Int) : Mpre n f [] := ⟨Nat.zero_le _, fun i x h => by simp at h⟩
theorem mpre_snoc {n : Nat} {f : Nat → Int × Int × Int} {pre : List Sx.Sg} {x : Sx.Sg} (h : Mpre n f pre) (hl : pre.length < n) (hx : f pre.length = cst x) : Mpre n f (pre ++ [x]) := by
  refine ⟨by simp; omega, fun i y hy => ?_⟩
  by_cases c : i < pre.length
  · rw [List.getElem?_append_left c] at hy
    exact h.2 i y hy
  · rw [List.getElem?_append_right (by omega)] at hy
    have : i - pre.length = 0 := by
      by_cases d : i - pre.length = 0
      · exact d
      · rw [List.getElem?_eq_none (by simp; omega)] at hy; cases hy
    rw [this] at hy
    simp at hy
    subst hy
    rw [show i = pre.length by omega]
    exact hx
theorem mpre_prefix {n : Nat} {f : Nat → Int × Int × Int} {pre L : List Sx.Sg} (h : JustP n f L) (hp : pre <+: L) : Mpre n f pre := by
  obtain ⟨t, rfl⟩ := hp
  refine ⟨by have := h.1; simp at this; omega, fun i x hx => h.2 i x ?_⟩
  have hi : i < pre.length := (List.getElem?_eq_some_iff.1 hx).1
  rw [List.getElem?_append_left hi]
  exact hx
set_option maxRecDepth 100000 in
set_option maxHeartbeats 4000000 in
theorem just_in (F : Fence) (nn : Nat) (h65 : F.fn 65) (h53 : F.fn 53) (hro : F.round = none) (hn3 : 3 ≤ nn) (G O n c : Nat) (p : Option Addr) (f : Nat → Int × Int × Int) (hp : 0 < n → p = some ⟨G, O, none⟩) (hc1 : n ≤ c) (hc2 : c ≤ 9223372036854775807) (g : Nat) (x y : Sx.Sg) (w : World) (hL : LAt w G O n f) (hg : Sx.Two w g x y) :
    CallsIn F nn Try.prog 65 #[.slice p n c, .func (.func 53) #[] #[.pointer (some ⟨g, 0, none⟩)]] w fun e W' => ∃ b : Bool, e = .returned (.bool b) ∧ (b = true ↔ JustP n f (Sx.kept [x, y])) ∧ Below w.heap.size w W' := by
  have h1 : 1 ≤ nn := by omega
  refine callsIn_of_wp_marks Try.func65 rfl h65 ?_ hro
  simp only [Try.ntmps65, List.size_toArray, List.length_cons, List.length_nil, Nat.reduceAdd, Nat.reduceSub, Array.replicate_succ, Array.replicate_zero, List.push_toArray, List.append_toArray, List.nil_append, List.cons_append]
  gi_wp2
  have b0 := (Boxed.new w 29 (.slice p n c)).alloc (.cells #[.bool false] 4)
  have b1 := Boxed.new (w.alloc (.cells #[.slice p n c] 29)) 4 (.bool false)
  rw [World.size_alloc] at b1
  have hB0 : Below w.heap.size w ((w.alloc (.cells #[.slice p n c] 29)).alloc (.cells #[.bool false] 4)) := ((Below.refl _ w).alloc (Nat.le_refl _) _).alloc (by simp) _
  have hg2 := hg.lt
  have k : ∀ (o : Nat) (v : Value), w.cell? ⟨g, o, none⟩ = some v → ((w.alloc (.cells #[.slice p n c] 29)).alloc (.cells #[.bool false] 4)).cell? ⟨g, o, none⟩ = some v := fun o v h => (hB0.cell (p := ⟨g, o, none⟩) hg2).trans h
  refine wpIn_rangeFunc_ownH hro h1 (gf := 53) (lb := #[.pointer (some ⟨g, 0, none⟩)]) rfl h53 (enters_of Try.func53 (by kernel_rfl) rfl)
    (Sx.seg_stops F (nn - 1) h53 hro (by omega) g x y (fun _ _ => True) ((w.alloc (.cells #[.slice p n c] 29)).alloc (.cells #[.bool false] 4)) (by simp; omega) (k _ _ hg.c0) (k _ _ hg.c1) (k _ _ hg.c2) (k _ _ hg.c3) (k _ _ hg.c4) (k _ _ hg.c5)) (fun _ _ => trivial) (fun _ _ _ _ _ _ _ _ => trivial) (Below.refl _ _) (fun _ => rfl)
    (fun pre W => (Rest W w.heap.size G O n pre.length ∧ Mpre n f pre ∧ Boxed W (w.heap.size + 1) 4 (.bool false)) ∧ Below w.heap.size w W)
    (fun cc pre W => (cc = .ret ∧ ¬ Mpre n f pre ∧ Boxed W (w.heap.size + 1) 4 (.bool false)) ∧ Below w.heap.size w W)
    (OwnFrom.and (Own.from (fun s A B row hs hg hr => ⟨by obtain ⟨p', c', hb, hr'⟩ := hs.1; exact ⟨p', c', boxed_own hb hg hr, hr'⟩, hs.2.1, boxed_own hs.2.2 hg hr⟩) _) (ownFrom_below (Nat.le_refl _) (by simp; omega)))
    (fun _ => OwnFrom.and (Own.from (fun s A B row hs hg hr => ⟨hs.1, hs.2.1, boxed_own hs.2.2 hg hr⟩) _) (ownFrom_below (Nat.le_refl _) (by simp; omega)))
    ⟨⟨⟨p, c, by simpa using b0, by simpa using hc1, hc2, by simpa using hp⟩, mpre_nil _ _, b1⟩, hB0⟩
    (fun z a' W => ∃ Bx, w.heap.size + 1 < Bx ∧ Sx.Item W Bx z ∧ a' = { tmps := #[.slice p n c, .func (.func 53) #[] #[.pointer (some ⟨g, 0, none⟩)], .pointer (some ⟨w.heap.size, 0, none⟩), undef, .pointer (some ⟨w.heap.size + 1, 0, none⟩), .pointer (some ⟨Bx, 0, none⟩), .func (.func 53) #[] #[.pointer (some ⟨g, 0, none⟩)], Sx.sgV z, undef, undef, undef, undef, undef, undef, undef, undef, undef, undef, undef, undef, undef, undef, undef], defers := [] })
    (fun x a' _ X Y row hs hg hr => by obtain ⟨Bx, h1, h2, h3⟩ := hs; exact ⟨Bx, h1, h2.own hg (fun r e => (hr r e).2), h3⟩)
    ?assign ?body ?done ?stop
  case assign =>
    rintro l pre z W K ⟨⟨⟨p', c', hb, hr'⟩, hM, hv⟩, hB⟩ hK
    gi_wp2
    exact hK _ _ ((KeepsOthers.alloc _ _).from _) trivial ⟨⟨⟨p', c', hb.alloc _, hr'⟩, hM, hv.alloc _⟩, hB.alloc hB.size _⟩ ⟨W.heap.size, hv.lt, Sx.Item.new W z, rfl⟩
  case body =>
    rintro l pre z a' W hl ⟨r, hr⟩ ⟨⟨⟨p', c', hb, hb1, hb2, hb3⟩, hM, hv⟩, hB⟩ ⟨Bx, hBx, bX, rfl⟩ hlt
    have hc := hb.cell
    have hcv := hv.cell
    have d0 := bX.c0
    have d1 := bX.c1
    have d2 := bX.c2
    by_cases hlen : pre.length < n
    · obtain rfl := hb3 hlen
      have hlB : G < w.heap.size := by
        obtain ⟨q, _, _⟩ := hL pre.length hlen
        exact World.block_lt_of_cell? w _ q
      obtain ⟨q0, q1, q2⟩ := hL pre.length hlen
      have a0 := (hB.cell (p := ⟨G, O + pre.length * 3, none⟩) hlB).trans q0
      have a1 := (hB.cell (p := ⟨G, O + pre.length * 3 + 1, none⟩) hlB).trans q1
      have a2 := (hB.cell (p := ⟨G, O + pre.length * 3 + 2, none⟩) hlB).trans q2
      obtain ⟨m, hm⟩ : ∃ m, n - pre.length = m + 1 := ⟨n - pre.length - 1, by omega⟩
      rw [hm] at hc
      by_cases hx : f pre.length = cst z
      · have HS := mpre_snoc hM hlen hx
        rw [hx] at a0 a1 a2
        have HQ : ∀ u, (Op.equalIn 10000 65 (.agg #[.int .u64 (z.1 : Nat), .int .u64 (z.2.1 : Nat), .int .u64 (z.2.2 : Nat)]) (.agg #[.int .u64 (z.1 : Nat), .int .u64 (z.2.1 : Nat), .int .u64 (z.2.2 : Nat)])).run Try.prog u = .ok true u := fun u => eq51 _ _ _ u
        simp only [cst] at a0 a1 a2
        have hm1 : m + 1 ≤ c' := by omega
        have hcf := hb.frozen
        clear hx q0 q1 q2
        have R0 : Hid (∀ (p2 : Option Addr) (c2 : Nat), m ≤ c2 → c2 ≤ 9223372036854775807 → (pre.length + 1 < n → p2 = some ⟨G, O + (pre.length + 1) * 3, none⟩) → KeepsFrom (w.heap.size + 1 + 1) W ((W.setCell ⟨w.heap.size, 0, none⟩ (.slice p2 m c2)).drew) ∧ True ∧ ((Rest ((W.setCell ⟨w.heap.size, 0, none⟩ (.slice p2 m c2)).drew) w.heap.size G O n (pre ++ [z]).length ∧ Mpre n f (pre ++ [z]) ∧ Boxed ((W.setCell ⟨w.heap.size, 0, none⟩ (.slice p2 m c2)).drew) (w.heap.size + 1) 4 (.bool false)) ∧ Below w.heap.size w ((W.setCell ⟨w.heap.size, 0, none⟩ (.slice p2 m c2)).drew))) := by
          intro p2 c2 k1 k2 k3
          refine ⟨(((KeepsOthers.setCell _ _ _).trans (KeepsOthers.drew _)).from _), trivial, ⟨⟨p2, c2, ?_, ?_, k2, ?_⟩, HS, ?_⟩, ?_⟩
          · rw [List.length_append, List.length_singleton, show n - (pre.length + 1) = m by omega]
            exact hb.set _
          · rw [List.length_append, List.length_singleton]; omega
          · rw [List.length_append, List.length_singleton]; exact k3
          · exact hv.other (by omega) _
          · exact (hB.setCell (p := ⟨w.heap.size, 0, none⟩) (Nat.le_refl _) _).drew
        gi_wp2
        gi_region
        all_goals gi_wp2
        all_goals first
          | exact R0.out _ _ (by omega) (by omega) (fun h => by omega)
          | exact R0.out _ _ (by omega) (by omega) (fun h => by rw [show O + (pre.length + 1) * 3 = O + pre.length * 3 + 3 by omega])
      · have HN : ¬ Mpre n f (pre ++ [z]) := fun q => hx (q.2 pre.length z (by simp))
        have HQ : ∀ u, (Op.equalIn 10000 65 (.agg #[.int .u64 (f pre.length).1, .int .u64 (f pre.length).2.1, .int .u64 (f pre.length).2.2]) (.agg #[.int .u64 (z.1 : Nat), .int .u64 (z.2.1 : Nat), .int .u64 (z.2.2 : Nat)])).run Try.prog u = .ok false u := fun u => by
          rw [eqSeg, decide_eq_false]
          intro q
          exact hx (Prod.ext q.1 (Prod.ext q.2.1 q.2.2))
        have hcf := hv.frozen
        clear hx q0 q1 q2
        gi_wp2
        gi_region
        all_goals gi_wp2
        all_goals exact ⟨(((KeepsOthers.setCell _ _ _).trans (KeepsOthers.drew _)).from _), ⟨rfl, HN, hv.set _⟩, (hB.setCell (p := ⟨w.heap.size + 1, 0, none⟩) (Nat.le_succ _) _).drew⟩
    · have hm : n - pre.length = 0 := by omega
      rw [hm] at hc
      have hcf := hv.frozen
      have HN : ¬ Mpre n f (pre ++ [z]) := fun q => by have := q.1; simp at this; omega
      gi_wp2
      gi_region
      all_goals gi_wp2
      all_goals exact ⟨(((KeepsOthers.setCell _ _ _).trans (KeepsOthers.drew _)).from _), ⟨rfl, HN, hv.set _⟩, (hB.setCell (p := ⟨w.heap.size + 1, 0, none⟩) (Nat.le_succ _) _).drew⟩
  case done =>
    rintro D ys W hD rfl ⟨⟨⟨p', c', hb, hb1, hb2, hb3⟩, hM, hv⟩, hB⟩ hK
    have hc := hb.cell
    have hcv := hv.cell
    have hcf := hv.frozen
    gi_wp2
    generalize hbb : (((n - (Sx.kept [x, y]).length : Nat) : Int) == 0) = bb
    have hK' := (KeepsOthers.setCell W ⟨w.heap.size + 1, 0, none⟩ (.bool bb)).same D _ hK rfl
    have hc5 := cell_kept (hv.set (.bool bb)).cell (grownBy_putObj' _ D (.deferred none)) (fun r e => by cases e; exact ⟨_, hK', rfl⟩)
    refine ⟨by simp, .inl ⟨_, _, rfl, run_takeDeferred hK', ?_⟩⟩
    refine ⟨.bool bb, ?_, bb, rfl, ?_, ?_⟩
    · simp [results, Try.f65, go_sem, hc5]
    · rw [← hbb]
      constructor
      · intro h
        have h0 : n - (Sx.kept [x, y]).length = 0 := by simpa using h
        exact ⟨by have := hM.1; omega, hM.2⟩
      · intro h
        have := h.1
        simp
        omega
    · exact (hB.setCell (p := ⟨w.heap.size + 1, 0, none⟩) (Nat.le_succ _) _).trans (belowK_b (w := w) (Nat.le_refl _) _ D _ _ (by simp at hD; omega) hK' rfl rfl)
  case stop =>
    rintro D cc pre W hD hpre ⟨⟨rfl, hM, hv⟩, hB⟩ hK
    have hcv := hv.cell
    gi_wp2
    have hc5 := cell_kept hv.cell (grownBy_putObj' _ D (.deferred none)) (fun r e => by cases e; exact ⟨_, hK, rfl⟩)
    refine ⟨by simp, .inl ⟨_, _, rfl, run_takeDeferred hK, ?_⟩⟩
    refine ⟨.bool false, ?_, false, rfl, ⟨(fun h => by cases h), fun h => absurd (mpre_prefix h hpre) hM⟩, hB.trans (belowK_b (w := w) (Nat.le_refl _) W D _ _ (by simp at hD; omega) hK rfl rfl)⟩
    simp [results, Try.f65, go_sem, hc5]
theorem just_ok {v : Value} {n : Nat} (p : Option Addr) (c : Nat) (f : Nat → Int × Int × Int) (hc1 : n ≤ c) (hc2 : c ≤ 9223372036854775807) (g : Nat) (x y : Sx.Sg) (w : World) (hL : SegV w (.slice p n c) n f) (hg : Sx.Two w g x y) :
    Calls Try.prog 65 #[.slice p n c, .func (.func 53) #[] #[.pointer (some ⟨g, 0, none⟩)]] w fun e W' => ∃ b : Bool, e = .returned (.bool b) ∧ (b = true ↔ JustP n f (Sx.kept [x, y])) ∧ Below w.heap.size w W' := by
  obtain ⟨p', c', hv, h⟩ := hL
  cases hv
  by_cases hn : 0 < n
  · obtain ⟨G, O, rfl, hl⟩ := h hn
    exact (callsIn_wide (n := 3)).1 (just_in _ 3 trivial trivial rfl (by omega) G O n c _ f (fun _ => rfl) hc1 hc2 g x y w hl hg)
  · obtain rfl : n = 0 := by omega
    exact (callsIn_wide (n := 3)).1 (just_in _ 3 trivial trivial rfl (by omega) 0 0 0 c p f (fun h => absurd h hn) hc1 hc2 g x y w (fun i hi => absurd hi (by omega)) hg)
end Go.Proofs.Ytmfnhdflmnmooaa
