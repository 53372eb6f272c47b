import Derived.Test.YtcnikfikpnnblaaGreatDoorNme
import Derived.Laws.ResultCell
import Derived.Deep.MidRow
import Derived.Deep.Cut
import Derived.Laws.Concat
import Derived.Maps.AppendAt
import Derived.Deep.QuietTactic
import Derived.BigQuiet
import Derived.Deep.Draws
import Derived.Deep.OwnRows
import Derived.Deep.DeepMust
import Derived.Laws.AppendOwnNone
namespace Go.Proofs.YtcnikfikpnnblaaGreatDoor
open Go.RowKit
set_option linter.unusedVariables false
theorem ret_agg_tmp {P : Program} {fn : Func} {p t : Tmp} {ty : TypeId} {d : TypeDesc} {Q : Ending → World → Prop} {tmps : Array Value} {w : World} {b : Nat} (cs : List Value) (v : Value) (h : fn.results = #[.cell p ty, .tmp t])
  (hp : tmps.getD p undef = .pointer (some ⟨b, 0, none⟩)) (ht : tmps.getD t undef = v) (hr : w.rangeAt b 0 cs) (hu : P.underlying ty = some d) (hd : d.isRow = true) (hi : (P.info? ty).map (·.size) = some cs.length)
  (hq : Q (.returned (.tuple #[.agg cs.toArray, v])) w) : bodyPost P fn Q .ret ⟨tmps, []⟩ w := by
 refine bodyPost_ret (v := .tuple #[.agg cs.toArray, v]) ?_ rfl hq
 rw [results_cell_tmp h]
 have hl := run_loadVar_mid (P := P) w b 0 ty cs d hr hu hd hi
 simp [hp, asAddr, hl, ht]
theorem bytes_inj {a b : ByteArray} (h : a.toList = b.toList) : a = b := by
 rw [Lib.toList_data, Lib.toList_data] at h
 cases a; cases b
 simp at h
 rw [h]
/-- A box: cells of a type in a block of their own. -/
def Bx (w : World) (b : Nat) (t : TypeId) (cs : List Value) : Prop := w.heap[b]? = some (.cells cs.toArray t (0, 0))
theorem Bx.lt {w : World} {b : Nat} {t : TypeId} {cs : List Value} (h : Bx w b t cs) : b < w.heap.size := (Array.getElem?_eq_some_iff.1 h).1
theorem Bx.keep {w w' : World} {b : Nat} {t : TypeId} {cs : List Value} (h : Bx w b t cs) (e : w'.heap[b]? = w.heap[b]?) : Bx w' b t cs := by
 unfold Bx at *; rw [e]; exact h
theorem Bx.below {w w' : World} {b : Nat} {t : TypeId} {cs : List Value} (h : Bx w b t cs) (hb : Below w.heap.size w w') : Bx w' b t cs := h.keep (hb.block b h.lt)
theorem Bx.cell {w : World} {b : Nat} {t : TypeId} {cs : List Value} (h : Bx w b t cs) (i : Nat) (v : Value) (hv : cs[i]? = some v) : w.cell? ⟨b, i, none⟩ = some v := by
 unfold Bx at h
 simp [World.cell?, h, hv]
theorem Bx.frozen {w : World} {b : Nat} {t : TypeId} {cs : List Value} (h : Bx w b t cs) (i : Nat) : w.frozen? ⟨b, i, none⟩ = false := by
 unfold Bx at h
 simp [World.frozen?, h]
theorem Bx.range {w : World} {b : Nat} {t : TypeId} {cs : List Value} (h : Bx w b t cs) : w.rangeAt b 0 cs := fun j u hj => by rw [Nat.zero_add]; exact h.cell j u hj
theorem Bx.new (w : World) (t : TypeId) (cs : List Value) : Bx (w.alloc (.cells cs.toArray t)) w.heap.size t cs := heap_alloc_new w _
theorem Bx.set {w : World} {b : Nat} {t : TypeId} {cs : List Value} (h : Bx w b t cs) (i : Nat) (v : Value) : Bx (w.setCell ⟨b, i, none⟩ v) b t (cs.set i v) := by
 unfold Bx at *
 rw [setCell_eq_setRow w b i cs.toArray t (0, 0) v h]
 rw [setRow_heap w b cs.toArray _ t (0, 0) h]
 simp
theorem gb_refl (w : World) (g : Option Nat) : w.grownBy w g := ⟨rfl, rfl, rfl, Nat.le_refl _, fun _ _ _ => rfl⟩
theorem gb_trans {w u v : World} {g : Nat} (h : w.grownBy u (some g)) (k : u.grownBy v (some g)) : w.grownBy v (some g) :=
 ⟨k.os.trans h.os, k.tape.trans h.tape, k.output.trans h.output, Nat.le_trans h.size k.size, fun i hi hn => (k.block i (Nat.lt_of_lt_of_le hi h.size) hn).trans (h.block i hi hn)⟩
theorem below_gb {w u : World} {B g : Nat} (h : w.grownBy u (some g)) (hB : B ≤ w.heap.size) (hg : B ≤ g) : Below B w u := ⟨h.os, h.tape, h.output, h.size, fun k hk => h.block k (by omega) (by intro e; injection e with e; omega)⟩
theorem bo_same (w : World) (b o : Nat) (cur : Array Value) (t : TypeId) (v : Value) (h : w.heap[b]? = some (.cells cur t (0, 0))) : (w.setCell ⟨b, o, none⟩ v).heap[b]? = some (.cells (cur.setIfInBounds o v) t (0, 0)) := by
 obtain ⟨hlt, hk⟩ := Array.getElem?_eq_some_iff.1 h
 show (w.heap.modify b _)[b]? = _
 rw [Array.getElem?_eq_getElem (by rw [Array.size_modify]; exact hlt), Array.getElem_modify_self, hk]
 rfl
theorem set_gb (w : World) (b o : Nat) (v : Value) : w.grownBy (w.setCell ⟨b, o, none⟩ v) (some b) := ⟨rfl, rfl, rfl, by simp [World.setCell], fun k _ hk => Below.heap_setCell w ⟨b, o, none⟩ v k (fun e => hk (by rw [e]))⟩
theorem setCells_bo (b t : Nat) : ∀ (vs : List Value) (o : Nat) (w : World) (cur : Array Value), w.heap[b]? = some (.cells cur t (0, 0)) → ∃ r, (w.setCells b o vs).heap[b]? = some (.cells r t (0, 0)) ∧ r.size = cur.size ∧ ∀ j, r[j]? = if o ≤ j ∧ j < o + vs.length ∧ j < cur.size then vs[j - o]? else cur[j]?
 | [], o, w, cur, h => ⟨cur, by simpa [World.setCells] using h, rfl, fun j => by rw [if_neg (by simp; omega)]⟩
 | v :: r, o, w, cur, h => by
  obtain ⟨q, h1, h2, h3⟩ := setCells_bo b t r (o + 1) (w.setCell ⟨b, o, none⟩ v) _ (bo_same w b o cur t v h)
  refine ⟨q, h1, by rw [h2]; simp, fun j => ?_⟩
  rw [h3]
  simp only [Array.size_setIfInBounds, List.length_cons]
  by_cases c1 : o + 1 ≤ j ∧ j < o + 1 + r.length ∧ j < cur.size
  ·rw [if_pos c1, if_pos (by omega), show j - o = (j - (o + 1)) + 1 by omega]
   simp
  ·rw [if_neg c1]
   by_cases c2 : o = j ∧ j < cur.size
   ·obtain ⟨rfl, c3⟩ := c2
    rw [if_pos (by omega)]
    simp [c3]
   ·rw [if_neg (by omega)]
    rw [Array.getElem?_setIfInBounds]
    split
    ·rename_i e
     subst e
     rw [if_neg (by omega)]
     rw [Array.getElem?_eq_none (by omega)]
    ·rfl
theorem setCells_gb (b : Nat) : ∀ (vs : List Value) (o : Nat) (w : World), w.grownBy (w.setCells b o vs) (some b)
 | [], _, w => gb_refl _ _
 | v :: r, o, w => by rw [World.setCells]; exact gb_trans (set_gb w b o v) (setCells_gb b r (o + 1) _)
theorem Bx.store {w : World} {b : Nat} {t : TypeId} {cs : List Value} (cs' : List Value) (h : Bx w b t cs) (hl : cs'.length = cs.length) : Bx (w.setCells b 0 cs') b t cs' := by
 obtain ⟨r, h1, h2, h3⟩ := setCells_bo b t cs' 0 w _ h
 have e : r = cs'.toArray := by
  apply Array.ext_getElem?
  intro j
  rw [h3]
  by_cases hj : j < cs.length
  ·rw [if_pos ⟨Nat.zero_le _, by omega, by simpa using hj⟩, Nat.sub_zero]
   simp
  ·rw [if_neg (by simp; omega), Array.getElem?_eq_none (by simp; omega), Array.getElem?_eq_none (by simp; omega)]
 unfold Bx
 rw [h1, e]
/-- A whole box is written. -/
theorem wpList_store_bx {P : Program} {w : World} {ops : Array Oper} {rest : List Oper} {o : Oper} {a : Act} {Q : Exit → Act → World → Prop} (hgd : o.guard = none) (t : TypeId) (x y : Operand) (ho : o.op = .store t x y) {bt : TypeId} (c c' : List Value) (g : Nat) (hx : a.eval x = .pointer (some ⟨g, 0, none⟩)) (hy : a.eval y = .agg c'.toArray)
  (hb : Bx w g bt c) (hl : c'.length = c.length) (hi : (P.info? t).map (·.size) = some c'.length) (h1 : ∀ v ∈ c', v.oneCell' = true) (h : ∀ u, Bx u g bt c' → w.grownBy u (some g) → wpList P ops Q rest (a.put o.dst undef) u) : wpList P ops Q (o :: rest) a w := by
 refine wpList_store_mid hgd t x y ho g 0 c'.toArray hx hy (fun j hj => ?_) (by simpa using hi) (all_oneCell_toArray h1) (h _ (hb.store c' hl) (setCells_gb g _ 0 w))
 rw [Nat.zero_add]
 have hj' : j < c.length := by rw [← hl]; simpa using hj
 refine ⟨?_, hb.frozen j⟩
 rw [hb.cell j _ (List.getElem?_eq_getElem hj')]
 rfl
end Go.Proofs.YtcnikfikpnnblaaGreatDoor
namespace Go.Proofs.YtcnikfikpnnblaaGreatDoor
open Go.RowKit
set_option linter.unusedVariables false
theorem ns_eq (i : Nat) (hi : i < 3) : nsB i = (⟨#[97, 101, 115]⟩ : ByteArray) ++ itB i ++ (⟨#[45]⟩ : ByteArray) := by
 rcases (show i = 0 ∨ i = 1 ∨ i = 2 by omega) with rfl | rfl | rfl <;> simp [nsB, itB, Lib.itoa, Lib.decDigits, ByteArray.mk_append_mk]
theorem name_eq (j : Nat) (hj : j < 52) : (rwF j)[0]? = some (.string (spN j)) := by
 cases j with
 | zero => rfl
 | succ j =>
  rw [rwF, spN, sxF, ns_eq _ (by omega)]
  rfl
theorem nm_cell {w : World} {b i : Nat} (h : w.heap[b]? = some (.cells (nmC 52).toArray 9 (0, 0))) (hi : i < 52) : w.cell? ⟨b, i, none⟩ = some (.string (spN i)) := by
 rw [World.cell?, h]
 simp [nmC_at 52 i hi, hi]
theorem rw_cell {w : World} {B g cap i : Nat} (h : w.ownsRow B 35 5 (.slice (some ⟨g, 0, none⟩) 52 cap) 52 (fl rwF 52)) (hi : i < 52) : w.cell? ⟨g, i * 5, none⟩ = some (.string (spN i)) := by
 have e := fl_at rwF 5 rwF_len 52 i 0 hi (by decide)
 rw [name_eq i hi] at e
 have q := World.ownsRow.cells h (g := g) rfl (i * 5 + 0) _ e
 rw [Addr.add_lit, Nat.zero_add] at q
 exact q
end Go.Proofs.YtcnikfikpnnblaaGreatDoor
namespace Go.Proofs.YtcnikfikpnnblaaGreatDoor
open Go.RowKit
set_option linter.unusedVariables false
set_option linter.unusedSimpArgs false
set_option maxHeartbeats 800000 in
set_option maxRecDepth 100000 in
/-- cofferbook.SameTexts of two lists of the names. -/
theorem sameTexts_ok (b1 b2 : Nat) (w : World) (h1 : Bx w b1 9 (nmC 52)) (h2 : Bx w b2 9 (nmC 52)) : Calls Tryz.prog 18 #[.slice (some ⟨b1, 0, none⟩) 52 52, .slice (some ⟨b2, 0, none⟩) 52 52] w fun e w' => Hid (e = .returned (.bool true) ∧ Below w.heap.size w w') := by
 have HA : Hid (Bx w b1 9 (nmC 52) ∧ Bx w b2 9 (nmC 52)) := ⟨h1, h2⟩
 clear h1 h2
 go_enter Tryz.func18, Tryz.ntmps18
 go_wp2
 go_loopw [5] (fun vi wr => ∃ i : Nat, vi = .int .i64 (i : Nat) ∧ i ≤ 52 ∧ Hid (wr.heap = w.heap ∧ wr.os = w.os ∧ wr.tape = w.tape ∧ wr.output = w.output)) (fun vi _ => 52 - (intOf vi).toNat)
 case atStart => exact ⟨0, rfl, by omega, rfl, rfl, rfl, rfl⟩
 case round =>
  obtain ⟨i, rfl, hi, HR⟩ := hrel
  by_cases hlt : i < 52
  ·have g0 : (0 : Int) ≤ (i : Int) := by omega
   have g1 : (i : Int) < 52 := by omega
   obtain ⟨NM, HNM⟩ : ∃ x, Hid (spN i = x) := ⟨_, rfl⟩
   have c0 : wr.cell? ⟨b1, i, none⟩ = some (.string NM) := by
    rw [← HNM.out, World.cell?_of_block (w := w) (by rw [HR.out.1])]
    exact nm_cell HA.out.1 hlt
   have c1 : wr.cell? ⟨b2, i, none⟩ = some (.string NM) := by
    rw [← HNM.out, World.cell?_of_block (w := w) (by rw [HR.out.1])]
    exact nm_cell HA.out.2 hlt
   go_upto_region 6 with fail
   go_quiet (fail)
   have HR2 : Hid ((wr.drewN nq).heap = w.heap ∧ (wr.drewN nq).os = w.os ∧ (wr.drewN nq).tape = w.tape ∧ (wr.drewN nq).output = w.output) := HR
   clear HR c0 c1
   generalize wr.drewN nq = wq at HR2 ⊢
   go_wp2
   exact ⟨⟨i + 1, by simp, by omega, HR2⟩, by simp [intOf]; omega⟩
  ·have g1 : ¬ (i : Int) < 52 := by omega
   have HF : Hid (Below w.heap.size w wr) := ⟨HR.out.2.1, HR.out.2.2.1, HR.out.2.2.2, by rw [HR.out.1]; exact Nat.le_refl _, fun _ _ => by rw [HR.out.1]⟩
   clear HR
   go_wp2
   go_ret
   exact ⟨rfl, HF.out⟩
theorem Tryz.infoT9 : (Tryz.prog.info? 9).map (fun i => (i.zero, i.size, i.bytes)) = some (some (.string ⟨#[]⟩), 1, 16) := by kernel_rfl
/-- A row of texts that is written on. -/
structure SpT (w wr : World) (b : Nat) (v : Value) (n : Nat) : Prop where
 own : ∃ g cap xs, v = .slice (some ⟨g, 0, none⟩) n cap ∧ wr.ownsRow 0 9 1 v n xs ∧ (g = b ∨ w.heap.size ≤ g)
 gr : w.grownBy wr (some b)
theorem ownT_set {w : World} {B g n cap i : Nat} {e : TypeId} {xs : List Value} (h : w.ownsRow B e 1 (.slice (some ⟨g, 0, none⟩) n cap) n xs) (x : Value) : ∃ ys, (w.setCell ⟨g, i, none⟩ x).ownsRow B e 1 (.slice (some ⟨g, 0, none⟩) n cap) n ys := by
 obtain ⟨hl, h⟩ := h
 rcases h with ⟨q, _⟩ | ⟨g', cap', cur, q, hb, hh, h1, h2, h3, h4⟩
 ·cases q
 ·injection q with q1 q2 q3
  injection q1 with q1
  injection q1 with q1
  subst q1 q3
  refine ⟨(cur.setIfInBounds i x).toList.take (n * 1), ?_, .inr ⟨g, cap, cur.setIfInBounds i x, rfl, hb, bo_same w g i cur e x hh, h1, h2, by simpa using h3, rfl⟩⟩
  simp
  rw [h3]
  omega
theorem ownT_cell {w : World} {B g n cap i : Nat} {e : TypeId} {xs : List Value} (h : w.ownsRow B e 1 (.slice (some ⟨g, 0, none⟩) n cap) n xs) (hi : i < n) : (∃ u, w.cell? ⟨g, i, none⟩ = some u) ∧ w.frozen? ⟨g, i, none⟩ = false ∧ g < w.heap.size := by
 obtain ⟨hl, h⟩ := h
 rcases h with ⟨q, _⟩ | ⟨g', cap', cur, q, hb, hh, h1, h2, h3, h4⟩
 ·cases q
 ·injection q with q1 q2 q3
  injection q1 with q1
  injection q1 with q1
  subst q1 q3
  refine ⟨⟨cur[i]'(by omega), ?_⟩, ?_, (Array.getElem?_eq_some_iff.1 hh).1⟩
  ·have : i < cur.size := by omega
   simp [World.cell?, hh, this]
  ·simp [World.frozen?, hh]
theorem SpT.set {w wr : World} {b g n cap i : Nat} (h : SpT w wr b (.slice (some ⟨g, 0, none⟩) n cap) n) (x : Value) : SpT w (wr.setCell ⟨g, i, none⟩ x) b (.slice (some ⟨g, 0, none⟩) n cap) n := by
 obtain ⟨g', cap', xs, e, ho, hg⟩ := h.own
 injection e with e1 e2 e3
 injection e1 with e1
 injection e1 with e1
 subst e1 e3
 obtain ⟨ys, hy⟩ := ownT_set ho x (i := i)
 refine ⟨⟨g, cap, ys, rfl, hy, hg⟩, ?_⟩
 have q := set_gb wr g i x
 refine ⟨q.os.trans h.gr.os, q.tape.trans h.gr.tape, q.output.trans h.gr.output, Nat.le_trans h.gr.size q.size, fun k hk hn => ?_⟩
 rw [q.block k (Nat.lt_of_lt_of_le hk h.gr.size) (by
  intro e
  injection e with e
  rcases hg with hg | hg
  ·exact hn (by rw [e, hg])
  ·omega)]
 exact h.gr.block k hk hn
set_option maxHeartbeats 1600000 in
set_option maxRecDepth 100000 in
/-- cofferbook.SpoilTexts. -/
theorem spoilTexts_ok (b : Nat) (w : World) (h : Bx w b 9 (nmC 52)) : Calls Tryz.prog 19 #[.slice (some ⟨b, 0, none⟩) 52 52] w fun e w' => Hid (e = .returned (.tuple #[]) ∧ w.grownBy w' (some b)) := by
 obtain ⟨i0, hi0, hz0, hz1, hz2⟩ := info_parts Tryz.infoT9
 have HI0 : Hid (Tryz.prog.info? 9 = some i0 ∧ i0.zero = some (.string ⟨#[]⟩) ∧ i0.size = 1 ∧ i0.bytes = 16) := ⟨hi0, hz0, hz1, hz2⟩
 clear hi0 hz0 hz1 hz2
 have HS : Hid (SpT w w b (.slice (some ⟨b, 0, none⟩) 52 52) 52) := ⟨⟨b, 52, nmC 52, rfl, ⟨nmC_len _, .inr ⟨b, 52, _, rfl, Nat.zero_le _, h, Nat.le_refl _, by unfold maxLen; omega, by rw [List.size_toArray, nmC_len], by rw [List.take_of_length_le]; rw [nmC_len]; omega⟩⟩, .inl rfl⟩, gb_refl _ _⟩
 clear h
 go_enter Tryz.func19, Tryz.ntmps19
 go_wp2
 go_loopw [2] (fun vi wr => ∃ i : Nat, vi = .int .i64 (i : Nat) ∧ i ≤ 52 ∧ Hid (SpT w wr b (.slice (some ⟨b, 0, none⟩) 52 52) 52)) (fun vi _ => 52 - (intOf vi).toNat)
 case atStart => exact ⟨0, rfl, by omega, HS⟩
 case round =>
  obtain ⟨i, rfl, hi, HR⟩ := hrel
  clear HS
  by_cases hlt : i < 52
  ·have g0 : (0 : Int) ≤ (i : Int) := by omega
   have g1 : (i : Int) < 52 := by omega
   obtain ⟨u0, c0, f0⟩ : ∃ u, wr.cell? ⟨b, i, none⟩ = some u ∧ wr.frozen? ⟨b, i, none⟩ = false := by
    obtain ⟨g', cap', xs, e, ho, hg⟩ := HR.out.own
    injection e with e1 e2 e3
    injection e1 with e1
    injection e1 with e1
    subst e1 e3
    obtain ⟨⟨u, hu⟩, hf, _⟩ := ownT_cell ho hlt
    exact ⟨u, hu, hf⟩
   have HR2 : Hid (SpT w (wr.setCell ⟨b, i, none⟩ (.string ⟨#[115, 112, 111, 105, 108, 116]⟩)) b (.slice (some ⟨b, 0, none⟩) 52 52) 52) := HR.out.set _
   clear HR
   go_wp2
   exact ⟨⟨i + 1, by simp, by omega, HR2⟩, by simp [intOf]; omega⟩
  ·have g1 : ¬ (i : Int) < 52 := by omega
   go_wp2
   go_loopw [0, 3] (fun v vi wx => ∃ k : Nat, vi = .int .i64 (k : Nat) ∧ k ≤ 70 ∧ Hid (SpT w wx b v (52 + k))) (fun _ vi _ => 70 - (intOf vi).toNat)
   case atStart => exact ⟨0, rfl, by omega, HR⟩
   case round =>
    obtain ⟨k, rfl, hk, HX⟩ := hrel
    clear HR
    obtain ⟨g, cap, xs, rfl, ho, hg⟩ := HX.out.own
    have HO : Hid (wr.ownsRow 0 9 1 (.slice (some ⟨g, 0, none⟩) (52 + k) cap) (52 + k) xs ∧ (g = b ∨ w.heap.size ≤ g)) := ⟨ho, hg⟩
    clear ho hg
    by_cases hkl : k < 70
    ·have k0 : (k : Int) < 70 := by omega
     go_wp2_with (first
      | (at_builtin; go_must (refine wpList_append_own_at _ rfl (.tmp 17) (.tmp 18) 40 rfl 0 9 i0 (.string ⟨#[]⟩) 1 16 Tryz.underlying40 HI0.out.1 HI0.out.2.1 HI0.out.2.2.1 HI0.out.2.2.2 rfl (by decide) _ _ _ rfl (HO.out.1.alloc _) ⟨wr.heap.size, 0, none⟩ 1 1 [.string ⟨#[109, 111, 114, 101]⟩] rfl rfl ?_ ?_ ?_ ?_ ?_ ?_)))
     ·intro j u hj
      match j, hj with
      | 0, hj => simp at hj; subst hj; simp [Addr.add]
     ·intro u hu; simp at hu; subst hu; rfl
     ·unfold maxLen; omega
     ·omega
     ·omega
     intro v2 w2 hown hgrow hnil hat
     have HX2 : Hid (SpT w w2 b v2 (52 + (k + 1))) := by
      have gw : w.grownBy w2 (some b) := by
       have ga : wr.grownBy (wr.alloc (.cells #[.string ⟨#[109, 111, 114, 101]⟩] 9)) (some b) := ⟨rfl, rfl, rfl, by simp, fun q hq _ => Below.heap_alloc _ _ _ hq⟩
       refine ⟨hgrow.os.trans (ga.os.trans HX.out.gr.os), hgrow.tape.trans (ga.tape.trans HX.out.gr.tape), hgrow.output.trans (ga.output.trans HX.out.gr.output), Nat.le_trans HX.out.gr.size (Nat.le_trans ga.size hgrow.size), fun q hq hn => ?_⟩
       have hq' : q < wr.heap.size := Nat.lt_of_lt_of_le hq HX.out.gr.size
       rw [hgrow.block q (Nat.lt_of_lt_of_le hq' ga.size) (by
        intro e
        have e' : q = g := by simpa [Value.ownBlock] using e
        rcases HO.out.2 with p | p
        ·exact hn (by rw [e', p])
        ·omega), Below.heap_alloc _ _ _ hq']
       exact HX.out.gr.block q hq hn
      refine ⟨?_, gw⟩
      rcases hown.2 with ⟨rfl, q⟩ | ⟨g2, cap2, cur2, rfl, q2, q3, q4⟩
      ·omega
      ·refine ⟨g2, cap2, _, rfl, by rw [show 52 + (k + 1) = 52 + k + 1 by omega]; exact hown, ?_⟩
       rcases hat with q | q
       ·have e' : g2 = g := by simpa [Value.ownBlock] using q
        rw [e']; exact HO.out.2
       ·have e' : g2 = (wr.alloc (.cells #[.string ⟨#[109, 111, 114, 101]⟩] 9)).heap.size := by simpa [Value.ownBlock] using q
        right
        rw [e']
        have := HX.out.gr.size
        simp
        omega
     clear hown hgrow hnil hat HO HX
     go_wp2
     go_roundw
     case rel => exact ⟨k + 1, by go_num, by omega, HX2⟩
     case measure => simp [intOf]; omega
    ·have k0 : ¬ (k : Int) < 70 := by omega
     obtain ⟨n, HN⟩ : ∃ n : Nat, Hid (n = 52 + k) := ⟨_, rfl⟩
     have hn0 : n = 122 := by rw [HN.out]; omega
     rw [← HN.out] at HO HX ⊢
     subst hn0
     obtain ⟨⟨u0, c0⟩, f0, hl⟩ := ownT_cell HO.out.1 (show 121 < 122 by omega)
     have HX2 : Hid (SpT w (wr.setCell ⟨g, 121, none⟩ (.string ⟨#[109, 111, 115, 116]⟩)) b (.slice (some ⟨g, 0, none⟩) 122 cap) 122) := HX.out.set _
     go_wp2
     go_end0
     exact ⟨rfl, HX2.out.gr⟩
end Go.Proofs.YtcnikfikpnnblaaGreatDoor
