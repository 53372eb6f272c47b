import Derived.Test.YtmfnhdflmnmooaaPart06
import Derived.Test.YtmfnhdflmnmooaaPart08
import Derived.Test.YtmfnhdflmnmooaaPart00
import Derived.Deep.RegionHeld3
import Derived.Deep.MidRow
import Derived.Test.YtmfnhdflmnmooaaPart07
namespace Go.Proofs.Ytmfnhdflmnmooaa
open Go.RowKit
set_option linter.unusedVariables false
set_option linter.unusedSimpArgs false
/-- Is all under the key of one epoch that is known by its number? -/
def OneP (m : Mt) (EL : List Epo) (f : Nat → Int × Int × Int) : Prop := m.gn = 1 ∧ f 0 = (0, (secs m : Int), (f 0).2.2) ∧ epN EL (f 0).2.2 m.en = 1
theorem one_ok (m : Mt) (hot : Nat) (EL : List Epo) (f : Nat → Int × Int × Int) (w : World) (h : MetaOk w m hot EL f) (hm : mayB m.U m.C m.H m.K = true) : Calls Try.prog 21 #[.agg (mtC m)] w fun e w' => ∃ b : Bool, e = .returned (.bool b) ∧ (b = true ↔ OneP m EL f) ∧ Below w.heap.size w w' := by
  obtain ⟨n1, n2, n3⟩ := secs_of hm
  by_cases hg : m.gn = 1
  · by_cases hJ : f 0 = (0, (secs m : Int), (f 0).2.2)
    · refine (one_2 m h.hC w (secs m) EL f n1 n3 h.hgn h.hen h.hn0 h.e1 h.hSg hm hg hJ).mono ?_
      intro e w' hh
      exact ⟨_, hh.out.1, by rw [decide_eq_true_iff]; exact ⟨fun q => ⟨hg, hJ, q⟩, fun q => q.2.2⟩, hh.out.2⟩
    · refine (one_1 m h.hC w (secs m) EL f n1 n3 h.hgn h.hen h.hn0 h.e1 h.hSg hm hg hJ).mono ?_
      intro e w' hh
      exact ⟨false, hh.out.1, ⟨(fun q => by cases q), fun q => absurd q.2.1 hJ⟩, hh.out.2⟩
  · refine (one_0 m h.hC w (secs m) EL f n1 n3 h.hgn h.hen h.hn0 h.e1 h.hSg hm hg).mono ?_
    intro e w' hh
    exact ⟨false, hh.out.1, ⟨(fun q => by cases q), fun q => absurd q.1 hg⟩, hh.out.2⟩
abbrev tuA (cs : ByteArray) (md : Int) (bk : Bool) (ht : Nat) : Array Value := #[.string cs, .int .i64 md, .bool bk, .int .u64 (ht : Nat)]
abbrev mtZ : Mt := ⟨⟨#[]⟩, ⟨#[]⟩, ⟨#[]⟩, ⟨#[]⟩, 0, 0, 0, 0, 0, ⟨#[]⟩, ⟨#[]⟩, none, 0, 0, none, 0, 0, none, 0, 0, false, 0, 0, false, 0, 0, 0, 0, 0, false, 0, ⟨#[]⟩, none, 0, 0⟩
theorem mtZ_is : mtC mtZ = mt0 := rfl
theorem results_cell_two {P : Program} {fn : Func} {p u : Tmp} {ty : TypeId} (h : fn.results = #[.cell p ty, .tmp u]) (tmps : Array Value) (w : World) (g : Nat) (t : TypeId) (cs : Array Value) (fr : Nat × Nat) (d : TypeDesc)
    (hp : tmps.getD p undef = .pointer (some ⟨g, 0, none⟩)) (hg : w.heap[g]? = some (.cells cs t fr)) (hu : P.underlying ty = some d) (hd : (match d with | .struct _ | .array _ _ => true | _ => false) = true) (hi : (P.info? ty).map (·.size) = some cs.size) :
    (results fn tmps).run P w = .ok (.tuple #[.agg cs, tmps.getD u undef]) w := by
  have hp' : tmps[p]?.getD undef = .pointer (some ⟨g, 0, none⟩) := by simpa using hp
  rw [results_cell_tmp h]
  simp [asAddr, hp', run_loadVar_row w g t ty cs fr d hg hu hd hi, Result.andThen]
/-- Begin's five variables. -/
structure Bg5 (w W : World) (m : Mt) (to : Epo) (ao az : Int) (cs : ByteArray) (md : Int) (bk : Bool) (ht : Nat) : Prop where
  bx : Bx W w.heap.size m
  te : W.heap[w.heap.size + 1]? = some (.cells (epA to) 38 (0, 0))
  ar : W.heap[w.heap.size + 2]? = some (.cells #[.int .i64 ao, .int .i64 az] 31 (0, 0))
  tu : W.heap[w.heap.size + 3]? = some (.cells (tuA cs md bk ht) 40 (0, 0))
  rs : W.heap[w.heap.size + 4]? = some (.cells mt0 36 (0, 0))
  bel : Below w.heap.size w W
  sz : w.heap.size + 5 ≤ W.heap.size
theorem Bg5.grown {w W W' : World} {m : Mt} {to : Epo} {ao az : Int} {cs : ByteArray} {md : Int} {bk : Bool} {ht : Nat} {row : Option Nat} (h : Bg5 w W m to ao az cs md bk ht) (g : W.grownBy W' row) (hr : ∀ j, row = some j → w.heap.size + 5 ≤ j) : Bg5 w W' m to ao az cs md bk ht := by
  have hs := h.sz
  have key : ∀ b, b < w.heap.size + 5 → W'.heap[b]? = W.heap[b]? := fun b hb => g.block b (by omega) (fun e => by have := hr b e.symm; omega)
  exact ⟨(key _ (by omega)).trans h.bx, (key _ (by omega)).trans h.te, (key _ (by omega)).trans h.ar, (key _ (by omega)).trans h.tu, (key _ (by omega)).trans h.rs, h.bel.grown g (by omega) (fun j e => by have := hr j e; omega), Nat.le_trans h.sz g.size⟩
theorem Bg5.below {w W W' : World} {m : Mt} {to : Epo} {ao az : Int} {cs : ByteArray} {md : Int} {bk : Bool} {ht : Nat} (h : Bg5 w W m to ao az cs md bk ht) (hb : Below W.heap.size W W') : Bg5 w W' m to ao az cs md bk ht := h.grown (row := none) (grown_of_below hb none) (fun j e => by cases e)
theorem Bg5.stay {w W W' : World} {m : Mt} {to : Epo} {ao az : Int} {cs : ByteArray} {md : Int} {bk : Bool} {ht b : Nat} (h : Bg5 w W m to ao az cs md bk ht) (s : Stay b W W') (hb : w.heap.size + 5 ≤ b) : Bg5 w W' m to ao az cs md bk ht := h.grown (grown_of_stay s) (fun j e => by cases e; exact hb)
theorem five_new (w : World) (m : Mt) (to : Epo) (ao az : Int) (cs : ByteArray) (md : Int) (bk : Bool) (ht : Nat) : Bg5 w (((((w.alloc (.cells (mtC m) 36)).alloc (.cells (epA to) 38)).alloc (.cells #[.int .i64 ao, .int .i64 az] 31)).alloc (.cells (tuA cs md bk ht) 40)).alloc (.cells mt0 36)) m to ao az cs md bk ht := by
  have k : ∀ (u : World) (o : Obj) (b : Nat) (x : Obj), u.heap[b]? = some x → (u.alloc o).heap[b]? = some x := fun u o b x h => ((below_alloc1 u o).block b (Array.getElem?_eq_some_iff.1 h).1).trans h
  have n : ∀ (u : World) (o : Obj) (b : Nat), u.heap.size = b → (u.alloc o).heap[b]? = some o := fun u o b h => by subst h; exact World.alloc_heap_new u o
  refine ⟨?_, ?_, ?_, ?_, ?_, ?_, by simp⟩
  · exact k _ _ _ _ (k _ _ _ _ (k _ _ _ _ (k _ _ _ _ (n _ _ _ rfl))))
  · exact k _ _ _ _ (k _ _ _ _ (k _ _ _ _ (n _ _ _ (by simp))))
  · exact k _ _ _ _ (k _ _ _ _ (n _ _ _ (by simp)))
  · exact k _ _ _ _ (n _ _ _ (by simp))
  · exact n _ _ _ (by simp)
  · exact (((((Below.refl _ w).alloc (Nat.le_refl _) _).alloc (by simp) _).alloc (by simp; omega) _).alloc (by simp; omega) _).alloc (by simp; omega) _
theorem Bg5.te0 {w W : World} {m : Mt} {to : Epo} {ao az : Int} {cs : ByteArray} {md : Int} {bk : Bool} {ht : Nat} (h : Bg5 w W m to ao az cs md bk ht) (k : Nat) (v : Value) (hk : (epA to)[k]? = some v) : W.cell? ⟨w.heap.size + 1, k, none⟩ = some v := by rw [cell_of_row W _ k _ 38 (0, 0) h.te]; exact hk
theorem Bg5.ar0 {w W : World} {m : Mt} {to : Epo} {ao az : Int} {cs : ByteArray} {md : Int} {bk : Bool} {ht : Nat} (h : Bg5 w W m to ao az cs md bk ht) (k : Nat) (v : Value) (hk : (#[.int .i64 ao, .int .i64 az] : Array Value)[k]? = some v) : W.cell? ⟨w.heap.size + 2, k, none⟩ = some v := by rw [cell_of_row W _ k _ 31 (0, 0) h.ar]; exact hk
theorem Bg5.tu0 {w W : World} {m : Mt} {to : Epo} {ao az : Int} {cs : ByteArray} {md : Int} {bk : Bool} {ht : Nat} (h : Bg5 w W m to ao az cs md bk ht) (k : Nat) (v : Value) (hk : (tuA cs md bk ht)[k]? = some v) : W.cell? ⟨w.heap.size + 3, k, none⟩ = some v := by rw [cell_of_row W _ k _ 40 (0, 0) h.tu]; exact hk
set_option maxHeartbeats 8000000 in
set_option maxRecDepth 100000 in
theorem begin_1 (m : Mt) (hot : Nat) (EL : List Epo) (f : Nat → Int × Int × Int) (to : Epo) (ao az : Int) (cs : ByteArray) (md : Int) (bk : Bool) (ht : Nat) (hz9 : az ≤ 9223372036854775807) (w : World) (O : Hid (MetaOk w m hot EL f)) (h1 : mayB m.U m.C m.H m.K = false) : Calls Try.prog 7 #[.agg (mtC m), .agg (epA to), .agg #[.int .i64 ao, .int .i64 az], .agg (tuA cs md bk ht)] w fun e w' => Hid (e = .returned (.tuple #[.agg mt0, .int .i64 2]) ∧ Below w.heap.size w w') := by
  have HM : Hid (∀ u, Calls Try.prog 18 #[.agg #[.int .i64 m.U, .int .u64 m.C, .int .i64 m.H, .int .i64 m.K]] u fun e w' => Hid (e = .returned (.bool false) ∧ Below u.heap.size u w')) := fun u => by
    have q := may_ok m.U m.C m.H m.K O.out.hC u
    rw [h1] at q
    exact q
  clear h1
  have F0 : Hid (Bg5 w (((((w.alloc (.cells (mtC m) 36)).alloc (.cells (epA to) 38)).alloc (.cells #[.int .i64 ao, .int .i64 az] 31)).alloc (.cells (tuA cs md bk ht) 40)).alloc (.cells mt0 36)) m to ao az cs md bk ht) := five_new w m to ao az cs md bk ht
  go_enter Try.func7, Try.ntmps7
  go_upto_region 1 with fail
  generalize (((((w.alloc (.cells (mtC m) 36)).alloc (.cells (epA to) 38)).alloc (.cells #[.int .i64 ao, .int .i64 az] 31)).alloc (.cells (tuA cs md bk ht) 40)).alloc (.cells mt0 36)) = w0 at F0 ⊢
  have y4 := F0.out.bx.c 4 (.int .i64 m.U) rfl
  have y5 := F0.out.bx.c 5 (.int .u64 m.C) rfl
  have y6 := F0.out.bx.c 6 (.int .i64 m.H) rfl
  have y7 := F0.out.bx.c 7 (.int .i64 m.K) rfl
  have y12 := F0.out.bx.c 12 (.slice m.ep m.en m.ec) rfl
  have y13 := F0.out.bx.c 13 (.slice m.gp m.gn m.gc) rfl
  have y14 := F0.out.bx.c 14 (.bool m.on) rfl
  have t0 := F0.out.te0 0 (.int .u64 to.n) rfl
  have t1 := F0.out.te0 1 (.string to.a) rfl
  have t2 := F0.out.te0 2 (.string to.b) rfl
  have t3 := F0.out.te0 3 (.string to.c) rfl
  have t4 := F0.out.te0 4 (.string to.d) rfl
  have a0 := F0.out.ar0 0 (.int .i64 ao) rfl
  have a1 := F0.out.ar0 1 (.int .i64 az) rfl
  have u0 := F0.out.tu0 0 (.string cs) rfl
  have u1 := F0.out.tu0 1 (.int .i64 md) rfl
  have u2 := F0.out.tu0 2 (.bool bk) rfl
  have u3 := F0.out.tu0 3 (.int .u64 (ht : Nat)) rfl
  go_upto_region 99 with (first | (go_at_call 18; refine (HM.out _).mono ?_; intro e5 w5 hh5; obtain ⟨he5, hb5⟩ := hh5.out; subst he5; have F5 := F0.out.below hb5; have y4 := F5.bx.c 4 (.int .i64 m.U) rfl; have y5 := F5.bx.c 5 (.int .u64 m.C) rfl; have y6 := F5.bx.c 6 (.int .i64 m.H) rfl; have y7 := F5.bx.c 7 (.int .i64 m.K) rfl; have y12 := F5.bx.c 12 (.slice m.ep m.en m.ec) rfl; have y13 := F5.bx.c 13 (.slice m.gp m.gn m.gc) rfl; have y14 := F5.bx.c 14 (.bool m.on) rfl; have t0 := F5.te0 0 (.int .u64 to.n) rfl; have t1 := F5.te0 1 (.string to.a) rfl; have t2 := F5.te0 2 (.string to.b) rfl; have t3 := F5.te0 3 (.string to.c) rfl; have t4 := F5.te0 4 (.string to.d) rfl; have a0 := F5.ar0 0 (.int .i64 ao) rfl; have a1 := F5.ar0 1 (.int .i64 az) rfl; have u0 := F5.tu0 0 (.string cs) rfl; have u1 := F5.tu0 1 (.int .i64 md) rfl; have u2 := F5.tu0 2 (.bool bk) rfl; have u3 := F5.tu0 3 (.int .u64 (ht : Nat)) rfl) | (refine wpList_store_box (by rfl) (.tmp 8) _ (by rfl) mtZ (w.heap.size + 4) mt0 (by rfl) (by rfl) F5.rs rfl ?_; intro WF bnF stF))
  refine bodyPost_ret (results_cell_two (P := Try.prog) (p := 8) (u := 9) (ty := 36) rfl _ WF (w.heap.size + 4) 36 (mtC mtZ) (0, 0) _ rfl bnF Try.underlying36 rfl (by rw [info36s]; rfl)) rfl ?_
  exact ⟨rfl, F5.bel.trans (stF.below (by omega) (by have := F5.sz; omega))⟩
set_option maxHeartbeats 8000000 in
set_option maxRecDepth 100000 in
theorem begin_2 (m : Mt) (hot : Nat) (EL : List Epo) (f : Nat → Int × Int × Int) (to : Epo) (ao az : Int) (cs : ByteArray) (md : Int) (bk : Bool) (ht : Nat) (hz9 : az ≤ 9223372036854775807) (w : World) (O : Hid (MetaOk w m hot EL f)) (h1 : mayB m.U m.C m.H m.K = true) (h2 : m.en = 0) : Calls Try.prog 7 #[.agg (mtC m), .agg (epA to), .agg #[.int .i64 ao, .int .i64 az], .agg (tuA cs md bk ht)] w fun e w' => Hid (e = .returned (.tuple #[.agg mt0, .int .i64 2]) ∧ Below w.heap.size w w') := by
  have HM : Hid (∀ u, Calls Try.prog 18 #[.agg #[.int .i64 m.U, .int .u64 m.C, .int .i64 m.H, .int .i64 m.K]] u fun e w' => Hid (e = .returned (.bool true) ∧ Below u.heap.size u w')) := fun u => by
    have q := may_ok m.U m.C m.H m.K O.out.hC u
    rw [h1] at q
    exact q
  obtain ⟨qu, qh, k4, k2, _, qc, qlt⟩ := mayB_all h1
  have hr := headB_range qh
  have hH1 : 0 ≤ m.H := by omega
  have hH2 : m.H ≤ 4194304 := hr.2
  have k1 : 0 ≤ m.K := by omega
  have qe : ((m.en : Int) == 0) = true := by simp [h2]
  clear h1 h2 qu qh k4 k2 qc qlt hr hH1 hH2 k1
  have F0 : Hid (Bg5 w (((((w.alloc (.cells (mtC m) 36)).alloc (.cells (epA to) 38)).alloc (.cells #[.int .i64 ao, .int .i64 az] 31)).alloc (.cells (tuA cs md bk ht) 40)).alloc (.cells mt0 36)) m to ao az cs md bk ht) := five_new w m to ao az cs md bk ht
  go_enter Try.func7, Try.ntmps7
  go_upto_region 1 with fail
  generalize (((((w.alloc (.cells (mtC m) 36)).alloc (.cells (epA to) 38)).alloc (.cells #[.int .i64 ao, .int .i64 az] 31)).alloc (.cells (tuA cs md bk ht) 40)).alloc (.cells mt0 36)) = w0 at F0 ⊢
  have y4 := F0.out.bx.c 4 (.int .i64 m.U) rfl
  have y5 := F0.out.bx.c 5 (.int .u64 m.C) rfl
  have y6 := F0.out.bx.c 6 (.int .i64 m.H) rfl
  have y7 := F0.out.bx.c 7 (.int .i64 m.K) rfl
  have y12 := F0.out.bx.c 12 (.slice m.ep m.en m.ec) rfl
  have y13 := F0.out.bx.c 13 (.slice m.gp m.gn m.gc) rfl
  have y14 := F0.out.bx.c 14 (.bool m.on) rfl
  have t0 := F0.out.te0 0 (.int .u64 to.n) rfl
  have t1 := F0.out.te0 1 (.string to.a) rfl
  have t2 := F0.out.te0 2 (.string to.b) rfl
  have t3 := F0.out.te0 3 (.string to.c) rfl
  have t4 := F0.out.te0 4 (.string to.d) rfl
  have a0 := F0.out.ar0 0 (.int .i64 ao) rfl
  have a1 := F0.out.ar0 1 (.int .i64 az) rfl
  have u0 := F0.out.tu0 0 (.string cs) rfl
  have u1 := F0.out.tu0 1 (.int .i64 md) rfl
  have u2 := F0.out.tu0 2 (.bool bk) rfl
  have u3 := F0.out.tu0 3 (.int .u64 (ht : Nat)) rfl
  go_upto_region 99 with (first | (go_at_call 18; refine (HM.out _).mono ?_; intro e5 w5 hh5; obtain ⟨he5, hb5⟩ := hh5.out; subst he5; have F5 := F0.out.below hb5; have y4 := F5.bx.c 4 (.int .i64 m.U) rfl; have y5 := F5.bx.c 5 (.int .u64 m.C) rfl; have y6 := F5.bx.c 6 (.int .i64 m.H) rfl; have y7 := F5.bx.c 7 (.int .i64 m.K) rfl; have y12 := F5.bx.c 12 (.slice m.ep m.en m.ec) rfl; have y13 := F5.bx.c 13 (.slice m.gp m.gn m.gc) rfl; have y14 := F5.bx.c 14 (.bool m.on) rfl; have t0 := F5.te0 0 (.int .u64 to.n) rfl; have t1 := F5.te0 1 (.string to.a) rfl; have t2 := F5.te0 2 (.string to.b) rfl; have t3 := F5.te0 3 (.string to.c) rfl; have t4 := F5.te0 4 (.string to.d) rfl; have a0 := F5.ar0 0 (.int .i64 ao) rfl; have a1 := F5.ar0 1 (.int .i64 az) rfl; have u0 := F5.tu0 0 (.string cs) rfl; have u1 := F5.tu0 1 (.int .i64 md) rfl; have u2 := F5.tu0 2 (.bool bk) rfl; have u3 := F5.tu0 3 (.int .u64 (ht : Nat)) rfl) | (refine wpList_store_box (by rfl) (.tmp 8) _ (by rfl) mtZ (w.heap.size + 4) mt0 (by rfl) (by rfl) F5.rs rfl ?_; intro WF bnF stF))
  refine bodyPost_ret (results_cell_two (P := Try.prog) (p := 8) (u := 9) (ty := 36) rfl _ WF (w.heap.size + 4) 36 (mtC mtZ) (0, 0) _ rfl bnF Try.underlying36 rfl (by rw [info36s]; rfl)) rfl ?_
  exact ⟨rfl, F5.bel.trans (stF.below (by omega) (by have := F5.sz; omega))⟩
set_option maxHeartbeats 8000000 in
set_option maxRecDepth 100000 in
theorem begin_3 (m : Mt) (hot : Nat) (EL : List Epo) (f : Nat → Int × Int × Int) (to : Epo) (ao az : Int) (cs : ByteArray) (md : Int) (bk : Bool) (ht : Nat) (hz9 : az ≤ 9223372036854775807) (w : World) (O : Hid (MetaOk w m hot EL f)) (h1 : mayB m.U m.C m.H m.K = true) (h2 : ¬ m.en = 0) (h3 : m.on = true) : Calls Try.prog 7 #[.agg (mtC m), .agg (epA to), .agg #[.int .i64 ao, .int .i64 az], .agg (tuA cs md bk ht)] w fun e w' => Hid (e = .returned (.tuple #[.agg mt0, .int .i64 132]) ∧ Below w.heap.size w w') := by
  have HM : Hid (∀ u, Calls Try.prog 18 #[.agg #[.int .i64 m.U, .int .u64 m.C, .int .i64 m.H, .int .i64 m.K]] u fun e w' => Hid (e = .returned (.bool true) ∧ Below u.heap.size u w')) := fun u => by
    have q := may_ok m.U m.C m.H m.K O.out.hC u
    rw [h1] at q
    exact q
  obtain ⟨qu, qh, k4, k2, _, qc, qlt⟩ := mayB_all h1
  have hr := headB_range qh
  have hH1 : 0 ≤ m.H := by omega
  have hH2 : m.H ≤ 4194304 := hr.2
  have k1 : 0 ≤ m.K := by omega
  have qe : ((m.en : Int) == 0) = false := by simp; omega
  have h3' : Hid (m.on = true) := h3
  clear h1 h2 h3 qu qh k4 k2 qc qlt hr hH1 hH2 k1
  have F0 : Hid (Bg5 w (((((w.alloc (.cells (mtC m) 36)).alloc (.cells (epA to) 38)).alloc (.cells #[.int .i64 ao, .int .i64 az] 31)).alloc (.cells (tuA cs md bk ht) 40)).alloc (.cells mt0 36)) m to ao az cs md bk ht) := five_new w m to ao az cs md bk ht
  go_enter Try.func7, Try.ntmps7
  go_upto_region 1 with fail
  generalize (((((w.alloc (.cells (mtC m) 36)).alloc (.cells (epA to) 38)).alloc (.cells #[.int .i64 ao, .int .i64 az] 31)).alloc (.cells (tuA cs md bk ht) 40)).alloc (.cells mt0 36)) = w0 at F0 ⊢
  have y4 := F0.out.bx.c 4 (.int .i64 m.U) rfl
  have y5 := F0.out.bx.c 5 (.int .u64 m.C) rfl
  have y6 := F0.out.bx.c 6 (.int .i64 m.H) rfl
  have y7 := F0.out.bx.c 7 (.int .i64 m.K) rfl
  have y12 := F0.out.bx.c 12 (.slice m.ep m.en m.ec) rfl
  have y13 := F0.out.bx.c 13 (.slice m.gp m.gn m.gc) rfl
  have y14 : w0.cell? ⟨w.heap.size, 14, none⟩ = some (.bool true) := (by have q := F0.out.bx.c 14 (.bool m.on) rfl; rw [h3'.out] at q; exact q)
  have t0 := F0.out.te0 0 (.int .u64 to.n) rfl
  have t1 := F0.out.te0 1 (.string to.a) rfl
  have t2 := F0.out.te0 2 (.string to.b) rfl
  have t3 := F0.out.te0 3 (.string to.c) rfl
  have t4 := F0.out.te0 4 (.string to.d) rfl
  have a0 := F0.out.ar0 0 (.int .i64 ao) rfl
  have a1 := F0.out.ar0 1 (.int .i64 az) rfl
  have u0 := F0.out.tu0 0 (.string cs) rfl
  have u1 := F0.out.tu0 1 (.int .i64 md) rfl
  have u2 := F0.out.tu0 2 (.bool bk) rfl
  have u3 := F0.out.tu0 3 (.int .u64 (ht : Nat)) rfl
  go_upto_region 99 with (first | (go_at_call 18; refine (HM.out _).mono ?_; intro e5 w5 hh5; obtain ⟨he5, hb5⟩ := hh5.out; subst he5; have F5 := F0.out.below hb5; have y4 := F5.bx.c 4 (.int .i64 m.U) rfl; have y5 := F5.bx.c 5 (.int .u64 m.C) rfl; have y6 := F5.bx.c 6 (.int .i64 m.H) rfl; have y7 := F5.bx.c 7 (.int .i64 m.K) rfl; have y12 := F5.bx.c 12 (.slice m.ep m.en m.ec) rfl; have y13 := F5.bx.c 13 (.slice m.gp m.gn m.gc) rfl; have y14 : w5.cell? ⟨w.heap.size, 14, none⟩ = some (.bool true) := (by have q := F5.bx.c 14 (.bool m.on) rfl; rw [h3'.out] at q; exact q); have t0 := F5.te0 0 (.int .u64 to.n) rfl; have t1 := F5.te0 1 (.string to.a) rfl; have t2 := F5.te0 2 (.string to.b) rfl; have t3 := F5.te0 3 (.string to.c) rfl; have t4 := F5.te0 4 (.string to.d) rfl; have a0 := F5.ar0 0 (.int .i64 ao) rfl; have a1 := F5.ar0 1 (.int .i64 az) rfl; have u0 := F5.tu0 0 (.string cs) rfl; have u1 := F5.tu0 1 (.int .i64 md) rfl; have u2 := F5.tu0 2 (.bool bk) rfl; have u3 := F5.tu0 3 (.int .u64 (ht : Nat)) rfl) | (refine wpList_store_box (by rfl) (.tmp 8) _ (by rfl) mtZ (w.heap.size + 4) mt0 (by rfl) (by rfl) F5.rs rfl ?_; intro WF bnF stF))
  refine bodyPost_ret (results_cell_two (P := Try.prog) (p := 8) (u := 9) (ty := 36) rfl _ WF (w.heap.size + 4) 36 (mtC mtZ) (0, 0) _ rfl bnF Try.underlying36 rfl (by rw [info36s]; rfl)) rfl ?_
  exact ⟨rfl, F5.bel.trans (stF.below (by omega) (by have := F5.sz; omega))⟩
set_option maxHeartbeats 8000000 in
set_option maxRecDepth 100000 in
theorem begin_4 (m : Mt) (hot : Nat) (EL : List Epo) (f : Nat → Int × Int × Int) (to : Epo) (ao az : Int) (cs : ByteArray) (md : Int) (bk : Bool) (ht : Nat) (hz9 : az ≤ 9223372036854775807) (w : World) (O : Hid (MetaOk w m hot EL f)) (h1 : mayB m.U m.C m.H m.K = true) (h2 : ¬ m.en = 0) (h3 : m.on = false) (h4 : areaB m.U m.H m.K ao az md ht = false) : Calls Try.prog 7 #[.agg (mtC m), .agg (epA to), .agg #[.int .i64 ao, .int .i64 az], .agg (tuA cs md bk ht)] w fun e w' => Hid (e = .returned (.tuple #[.agg mt0, .int .i64 2]) ∧ Below w.heap.size w w') := by
  have HM : Hid (∀ u, Calls Try.prog 18 #[.agg #[.int .i64 m.U, .int .u64 m.C, .int .i64 m.H, .int .i64 m.K]] u fun e w' => Hid (e = .returned (.bool true) ∧ Below u.heap.size u w')) := fun u => by
    have q := may_ok m.U m.C m.H m.K O.out.hC u
    rw [h1] at q
    exact q
  obtain ⟨qu, qh, k4, k2, _, qc, qlt⟩ := mayB_all h1
  have hr := headB_range qh
  have hH1 : 0 ≤ m.H := by omega
  have hH2 : m.H ≤ 4194304 := hr.2
  have k1 : 0 ≤ m.K := by omega
  have qe : ((m.en : Int) == 0) = false := by simp; omega
  have h3' : Hid (m.on = false) := h3
  have HAr : Hid (∀ u, Calls Try.prog 19 #[.agg #[.int .i64 m.U, .int .u64 m.C, .int .i64 m.H, .int .i64 m.K], .agg #[.int .i64 ao, .int .i64 az], .int .i64 md, .int .u64 (ht : Nat)] u fun e w' => Hid (e = .returned (.bool false) ∧ Below u.heap.size u w')) := fun u => by
    have q := area_ok m.U m.C m.H m.K ao az md ht u hH1 hH2 k1 k2 hz9
    rw [h4] at q
    exact q
  clear h1 h2 h3 h4 qu qh k4 k2 qc qlt hr hH1 hH2 k1
  have F0 : Hid (Bg5 w (((((w.alloc (.cells (mtC m) 36)).alloc (.cells (epA to) 38)).alloc (.cells #[.int .i64 ao, .int .i64 az] 31)).alloc (.cells (tuA cs md bk ht) 40)).alloc (.cells mt0 36)) m to ao az cs md bk ht) := five_new w m to ao az cs md bk ht
  go_enter Try.func7, Try.ntmps7
  go_upto_region 1 with fail
  generalize (((((w.alloc (.cells (mtC m) 36)).alloc (.cells (epA to) 38)).alloc (.cells #[.int .i64 ao, .int .i64 az] 31)).alloc (.cells (tuA cs md bk ht) 40)).alloc (.cells mt0 36)) = w0 at F0 ⊢
  have y4 := F0.out.bx.c 4 (.int .i64 m.U) rfl
  have y5 := F0.out.bx.c 5 (.int .u64 m.C) rfl
  have y6 := F0.out.bx.c 6 (.int .i64 m.H) rfl
  have y7 := F0.out.bx.c 7 (.int .i64 m.K) rfl
  have y12 := F0.out.bx.c 12 (.slice m.ep m.en m.ec) rfl
  have y13 := F0.out.bx.c 13 (.slice m.gp m.gn m.gc) rfl
  have y14 : w0.cell? ⟨w.heap.size, 14, none⟩ = some (.bool false) := (by have q := F0.out.bx.c 14 (.bool m.on) rfl; rw [h3'.out] at q; exact q)
  have t0 := F0.out.te0 0 (.int .u64 to.n) rfl
  have t1 := F0.out.te0 1 (.string to.a) rfl
  have t2 := F0.out.te0 2 (.string to.b) rfl
  have t3 := F0.out.te0 3 (.string to.c) rfl
  have t4 := F0.out.te0 4 (.string to.d) rfl
  have a0 := F0.out.ar0 0 (.int .i64 ao) rfl
  have a1 := F0.out.ar0 1 (.int .i64 az) rfl
  have u0 := F0.out.tu0 0 (.string cs) rfl
  have u1 := F0.out.tu0 1 (.int .i64 md) rfl
  have u2 := F0.out.tu0 2 (.bool bk) rfl
  have u3 := F0.out.tu0 3 (.int .u64 (ht : Nat)) rfl
  go_upto_region 99 with (first | (go_at_call 18; refine (HM.out _).mono ?_; intro e5 w5 hh5; obtain ⟨he5, hb5⟩ := hh5.out; subst he5; have F5 := F0.out.below hb5; have y4 := F5.bx.c 4 (.int .i64 m.U) rfl; have y5 := F5.bx.c 5 (.int .u64 m.C) rfl; have y6 := F5.bx.c 6 (.int .i64 m.H) rfl; have y7 := F5.bx.c 7 (.int .i64 m.K) rfl; have y12 := F5.bx.c 12 (.slice m.ep m.en m.ec) rfl; have y13 := F5.bx.c 13 (.slice m.gp m.gn m.gc) rfl; have y14 : w5.cell? ⟨w.heap.size, 14, none⟩ = some (.bool false) := (by have q := F5.bx.c 14 (.bool m.on) rfl; rw [h3'.out] at q; exact q); have t0 := F5.te0 0 (.int .u64 to.n) rfl; have t1 := F5.te0 1 (.string to.a) rfl; have t2 := F5.te0 2 (.string to.b) rfl; have t3 := F5.te0 3 (.string to.c) rfl; have t4 := F5.te0 4 (.string to.d) rfl; have a0 := F5.ar0 0 (.int .i64 ao) rfl; have a1 := F5.ar0 1 (.int .i64 az) rfl; have u0 := F5.tu0 0 (.string cs) rfl; have u1 := F5.tu0 1 (.int .i64 md) rfl; have u2 := F5.tu0 2 (.bool bk) rfl; have u3 := F5.tu0 3 (.int .u64 (ht : Nat)) rfl) | (go_at_call 19; refine (HAr.out _).mono ?_; intro e6 w6 hh6; obtain ⟨he6, hb6⟩ := hh6.out; subst he6; have F6 := F5.below hb6; have y4 := F6.bx.c 4 (.int .i64 m.U) rfl; have y5 := F6.bx.c 5 (.int .u64 m.C) rfl; have y6 := F6.bx.c 6 (.int .i64 m.H) rfl; have y7 := F6.bx.c 7 (.int .i64 m.K) rfl; have y12 := F6.bx.c 12 (.slice m.ep m.en m.ec) rfl; have y13 := F6.bx.c 13 (.slice m.gp m.gn m.gc) rfl; have y14 : w6.cell? ⟨w.heap.size, 14, none⟩ = some (.bool false) := (by have q := F6.bx.c 14 (.bool m.on) rfl; rw [h3'.out] at q; exact q); have t0 := F6.te0 0 (.int .u64 to.n) rfl; have t1 := F6.te0 1 (.string to.a) rfl; have t2 := F6.te0 2 (.string to.b) rfl; have t3 := F6.te0 3 (.string to.c) rfl; have t4 := F6.te0 4 (.string to.d) rfl; have a0 := F6.ar0 0 (.int .i64 ao) rfl; have a1 := F6.ar0 1 (.int .i64 az) rfl; have u0 := F6.tu0 0 (.string cs) rfl; have u1 := F6.tu0 1 (.int .i64 md) rfl; have u2 := F6.tu0 2 (.bool bk) rfl; have u3 := F6.tu0 3 (.int .u64 (ht : Nat)) rfl) | (refine wpList_store_box (by rfl) (.tmp 8) _ (by rfl) mtZ (w.heap.size + 4) mt0 (by rfl) (by rfl) F6.rs rfl ?_; intro WF bnF stF))
  refine bodyPost_ret (results_cell_two (P := Try.prog) (p := 8) (u := 9) (ty := 36) rfl _ WF (w.heap.size + 4) 36 (mtC mtZ) (0, 0) _ rfl bnF Try.underlying36 rfl (by rw [info36s]; rfl)) rfl ?_
  exact ⟨rfl, F6.bel.trans (stF.below (by omega) (by have := F6.sz; omega))⟩
set_option maxHeartbeats 8000000 in
set_option maxRecDepth 100000 in
theorem begin_5 (m : Mt) (hot : Nat) (EL : List Epo) (f : Nat → Int × Int × Int) (to : Epo) (ao az : Int) (cs : ByteArray) (md : Int) (bk : Bool) (ht : Nat) (hz9 : az ≤ 9223372036854775807) (w : World) (O : Hid (MetaOk w m hot EL f)) (h1 : mayB m.U m.C m.H m.K = true) (h2 : ¬ m.en = 0) (h3 : m.on = false) (h4 : areaB m.U m.H m.K ao az md ht = true) (h5 : hasB EL to.n m.en) : Calls Try.prog 7 #[.agg (mtC m), .agg (epA to), .agg #[.int .i64 ao, .int .i64 az], .agg (tuA cs md bk ht)] w fun e w' => Hid (e = .returned (.tuple #[.agg mt0, .int .i64 2]) ∧ Below w.heap.size w w') := by
  have HM : Hid (∀ u, Calls Try.prog 18 #[.agg #[.int .i64 m.U, .int .u64 m.C, .int .i64 m.H, .int .i64 m.K]] u fun e w' => Hid (e = .returned (.bool true) ∧ Below u.heap.size u w')) := fun u => by
    have q := may_ok m.U m.C m.H m.K O.out.hC u
    rw [h1] at q
    exact q
  obtain ⟨qu, qh, k4, k2, _, qc, qlt⟩ := mayB_all h1
  have hr := headB_range qh
  have hH1 : 0 ≤ m.H := by omega
  have hH2 : m.H ≤ 4194304 := hr.2
  have k1 : 0 ≤ m.K := by omega
  have qe : ((m.en : Int) == 0) = false := by simp; omega
  have h3' : Hid (m.on = false) := h3
  have HAr : Hid (∀ u, Calls Try.prog 19 #[.agg #[.int .i64 m.U, .int .u64 m.C, .int .i64 m.H, .int .i64 m.K], .agg #[.int .i64 ao, .int .i64 az], .int .i64 md, .int .u64 (ht : Nat)] u fun e w' => Hid (e = .returned (.bool true) ∧ Below u.heap.size u w')) := fun u => by
    have q := area_ok m.U m.C m.H m.K ao az md ht u hH1 hH2 k1 k2 hz9
    rw [h4] at q
    exact q
  have HNw : Hid (∀ u, Below w.heap.size w u → Calls Try.prog 20 #[.slice m.ep m.en m.ec, .agg (epA to)] u fun e w' => Hid (e = .returned (.bool false) ∧ Below u.heap.size u w')) := fun u hu => by
    refine (newest_ok m.ep m.en m.ec EL to O.out.hen (Nat.le_trans O.out.hn0 (by omega)) u (O.out.e1.below hu)).mono ?_
    intro e w' hh
    obtain ⟨⟨b, he, hb⟩, hB⟩ := hh.out
    refine ⟨?_, hB⟩
    cases b; exact he; exact absurd h5 (hb.1 rfl)
  clear h1 h2 h3 h4 h5 qu qh k4 k2 qc qlt hr hH1 hH2 k1
  have F0 : Hid (Bg5 w (((((w.alloc (.cells (mtC m) 36)).alloc (.cells (epA to) 38)).alloc (.cells #[.int .i64 ao, .int .i64 az] 31)).alloc (.cells (tuA cs md bk ht) 40)).alloc (.cells mt0 36)) m to ao az cs md bk ht) := five_new w m to ao az cs md bk ht
  go_enter Try.func7, Try.ntmps7
  go_upto_region 1 with fail
  generalize (((((w.alloc (.cells (mtC m) 36)).alloc (.cells (epA to) 38)).alloc (.cells #[.int .i64 ao, .int .i64 az] 31)).alloc (.cells (tuA cs md bk ht) 40)).alloc (.cells mt0 36)) = w0 at F0 ⊢
  have y4 := F0.out.bx.c 4 (.int .i64 m.U) rfl
  have y5 := F0.out.bx.c 5 (.int .u64 m.C) rfl
  have y6 := F0.out.bx.c 6 (.int .i64 m.H) rfl
  have y7 := F0.out.bx.c 7 (.int .i64 m.K) rfl
  have y12 := F0.out.bx.c 12 (.slice m.ep m.en m.ec) rfl
  have y13 := F0.out.bx.c 13 (.slice m.gp m.gn m.gc) rfl
  have y14 : w0.cell? ⟨w.heap.size, 14, none⟩ = some (.bool false) := (by have q := F0.out.bx.c 14 (.bool m.on) rfl; rw [h3'.out] at q; exact q)
  have t0 := F0.out.te0 0 (.int .u64 to.n) rfl
  have t1 := F0.out.te0 1 (.string to.a) rfl
  have t2 := F0.out.te0 2 (.string to.b) rfl
  have t3 := F0.out.te0 3 (.string to.c) rfl
  have t4 := F0.out.te0 4 (.string to.d) rfl
  have a0 := F0.out.ar0 0 (.int .i64 ao) rfl
  have a1 := F0.out.ar0 1 (.int .i64 az) rfl
  have u0 := F0.out.tu0 0 (.string cs) rfl
  have u1 := F0.out.tu0 1 (.int .i64 md) rfl
  have u2 := F0.out.tu0 2 (.bool bk) rfl
  have u3 := F0.out.tu0 3 (.int .u64 (ht : Nat)) rfl
  go_upto_region 99 with (first | (go_at_call 18; refine (HM.out _).mono ?_; intro e5 w5 hh5; obtain ⟨he5, hb5⟩ := hh5.out; subst he5; have F5 := F0.out.below hb5; have y4 := F5.bx.c 4 (.int .i64 m.U) rfl; have y5 := F5.bx.c 5 (.int .u64 m.C) rfl; have y6 := F5.bx.c 6 (.int .i64 m.H) rfl; have y7 := F5.bx.c 7 (.int .i64 m.K) rfl; have y12 := F5.bx.c 12 (.slice m.ep m.en m.ec) rfl; have y13 := F5.bx.c 13 (.slice m.gp m.gn m.gc) rfl; have y14 : w5.cell? ⟨w.heap.size, 14, none⟩ = some (.bool false) := (by have q := F5.bx.c 14 (.bool m.on) rfl; rw [h3'.out] at q; exact q); have t0 := F5.te0 0 (.int .u64 to.n) rfl; have t1 := F5.te0 1 (.string to.a) rfl; have t2 := F5.te0 2 (.string to.b) rfl; have t3 := F5.te0 3 (.string to.c) rfl; have t4 := F5.te0 4 (.string to.d) rfl; have a0 := F5.ar0 0 (.int .i64 ao) rfl; have a1 := F5.ar0 1 (.int .i64 az) rfl; have u0 := F5.tu0 0 (.string cs) rfl; have u1 := F5.tu0 1 (.int .i64 md) rfl; have u2 := F5.tu0 2 (.bool bk) rfl; have u3 := F5.tu0 3 (.int .u64 (ht : Nat)) rfl) | (go_at_call 19; refine (HAr.out _).mono ?_; intro e6 w6 hh6; obtain ⟨he6, hb6⟩ := hh6.out; subst he6; have F6 := F5.below hb6; have y4 := F6.bx.c 4 (.int .i64 m.U) rfl; have y5 := F6.bx.c 5 (.int .u64 m.C) rfl; have y6 := F6.bx.c 6 (.int .i64 m.H) rfl; have y7 := F6.bx.c 7 (.int .i64 m.K) rfl; have y12 := F6.bx.c 12 (.slice m.ep m.en m.ec) rfl; have y13 := F6.bx.c 13 (.slice m.gp m.gn m.gc) rfl; have y14 : w6.cell? ⟨w.heap.size, 14, none⟩ = some (.bool false) := (by have q := F6.bx.c 14 (.bool m.on) rfl; rw [h3'.out] at q; exact q); have t0 := F6.te0 0 (.int .u64 to.n) rfl; have t1 := F6.te0 1 (.string to.a) rfl; have t2 := F6.te0 2 (.string to.b) rfl; have t3 := F6.te0 3 (.string to.c) rfl; have t4 := F6.te0 4 (.string to.d) rfl; have a0 := F6.ar0 0 (.int .i64 ao) rfl; have a1 := F6.ar0 1 (.int .i64 az) rfl; have u0 := F6.tu0 0 (.string cs) rfl; have u1 := F6.tu0 1 (.int .i64 md) rfl; have u2 := F6.tu0 2 (.bool bk) rfl; have u3 := F6.tu0 3 (.int .u64 (ht : Nat)) rfl) | (go_at_call 20; refine (HNw.out _ F6.bel).mono ?_; intro e7 w7 hh7; obtain ⟨he7, hb7⟩ := hh7.out; subst he7; have F7 := F6.below hb7; have y4 := F7.bx.c 4 (.int .i64 m.U) rfl; have y5 := F7.bx.c 5 (.int .u64 m.C) rfl; have y6 := F7.bx.c 6 (.int .i64 m.H) rfl; have y7 := F7.bx.c 7 (.int .i64 m.K) rfl; have y12 := F7.bx.c 12 (.slice m.ep m.en m.ec) rfl; have y13 := F7.bx.c 13 (.slice m.gp m.gn m.gc) rfl; have y14 : w7.cell? ⟨w.heap.size, 14, none⟩ = some (.bool false) := (by have q := F7.bx.c 14 (.bool m.on) rfl; rw [h3'.out] at q; exact q); have t0 := F7.te0 0 (.int .u64 to.n) rfl; have t1 := F7.te0 1 (.string to.a) rfl; have t2 := F7.te0 2 (.string to.b) rfl; have t3 := F7.te0 3 (.string to.c) rfl; have t4 := F7.te0 4 (.string to.d) rfl; have a0 := F7.ar0 0 (.int .i64 ao) rfl; have a1 := F7.ar0 1 (.int .i64 az) rfl; have u0 := F7.tu0 0 (.string cs) rfl; have u1 := F7.tu0 1 (.int .i64 md) rfl; have u2 := F7.tu0 2 (.bool bk) rfl; have u3 := F7.tu0 3 (.int .u64 (ht : Nat)) rfl) | (refine wpList_store_box (by rfl) (.tmp 8) _ (by rfl) mtZ (w.heap.size + 4) mt0 (by rfl) (by rfl) F7.rs rfl ?_; intro WF bnF stF))
  refine bodyPost_ret (results_cell_two (P := Try.prog) (p := 8) (u := 9) (ty := 36) rfl _ WF (w.heap.size + 4) 36 (mtC mtZ) (0, 0) _ rfl bnF Try.underlying36 rfl (by rw [info36s]; rfl)) rfl ?_
  exact ⟨rfl, F7.bel.trans (stF.below (by omega) (by have := F7.sz; omega))⟩
set_option maxHeartbeats 8000000 in
set_option maxRecDepth 100000 in
theorem begin_6 (m : Mt) (hot : Nat) (EL : List Epo) (f : Nat → Int × Int × Int) (to : Epo) (ao az : Int) (cs : ByteArray) (md : Int) (bk : Bool) (ht : Nat) (hz9 : az ≤ 9223372036854775807) (w : World) (O : Hid (MetaOk w m hot EL f)) (h1 : mayB m.U m.C m.H m.K = true) (h2 : ¬ m.en = 0) (h3 : m.on = false) (h4 : areaB m.U m.H m.K ao az md ht = true) (h5 : ¬ hasB EL to.n m.en) (h6 : ¬ to.a.toList = cs.toList) : Calls Try.prog 7 #[.agg (mtC m), .agg (epA to), .agg #[.int .i64 ao, .int .i64 az], .agg (tuA cs md bk ht)] w fun e w' => Hid (e = .returned (.tuple #[.agg mt0, .int .i64 2]) ∧ Below w.heap.size w w') := by
  have HM : Hid (∀ u, Calls Try.prog 18 #[.agg #[.int .i64 m.U, .int .u64 m.C, .int .i64 m.H, .int .i64 m.K]] u fun e w' => Hid (e = .returned (.bool true) ∧ Below u.heap.size u w')) := fun u => by
    have q := may_ok m.U m.C m.H m.K O.out.hC u
    rw [h1] at q
    exact q
  obtain ⟨qu, qh, k4, k2, _, qc, qlt⟩ := mayB_all h1
  have hr := headB_range qh
  have hH1 : 0 ≤ m.H := by omega
  have hH2 : m.H ≤ 4194304 := hr.2
  have k1 : 0 ≤ m.K := by omega
  have qe : ((m.en : Int) == 0) = false := by simp; omega
  have h3' : Hid (m.on = false) := h3
  have HAr : Hid (∀ u, Calls Try.prog 19 #[.agg #[.int .i64 m.U, .int .u64 m.C, .int .i64 m.H, .int .i64 m.K], .agg #[.int .i64 ao, .int .i64 az], .int .i64 md, .int .u64 (ht : Nat)] u fun e w' => Hid (e = .returned (.bool true) ∧ Below u.heap.size u w')) := fun u => by
    have q := area_ok m.U m.C m.H m.K ao az md ht u hH1 hH2 k1 k2 hz9
    rw [h4] at q
    exact q
  have HNw : Hid (∀ u, Below w.heap.size w u → Calls Try.prog 20 #[.slice m.ep m.en m.ec, .agg (epA to)] u fun e w' => Hid (e = .returned (.bool true) ∧ Below u.heap.size u w')) := fun u hu => by
    refine (newest_ok m.ep m.en m.ec EL to O.out.hen (Nat.le_trans O.out.hn0 (by omega)) u (O.out.e1.below hu)).mono ?_
    intro e w' hh
    obtain ⟨⟨b, he, hb⟩, hB⟩ := hh.out
    refine ⟨?_, hB⟩
    rw [he, hb.2 h5]
  have qs1 : decide (to.a.toList = cs.toList) = false := by simpa using h6
  have qs2 : (to.a.toList == cs.toList) = false := by simpa using h6
  clear h1 h2 h3 h4 h5 qu qh k4 k2 qc qlt hr hH1 hH2 k1
  have F0 : Hid (Bg5 w (((((w.alloc (.cells (mtC m) 36)).alloc (.cells (epA to) 38)).alloc (.cells #[.int .i64 ao, .int .i64 az] 31)).alloc (.cells (tuA cs md bk ht) 40)).alloc (.cells mt0 36)) m to ao az cs md bk ht) := five_new w m to ao az cs md bk ht
  go_enter Try.func7, Try.ntmps7
  go_upto_region 1 with fail
  generalize (((((w.alloc (.cells (mtC m) 36)).alloc (.cells (epA to) 38)).alloc (.cells #[.int .i64 ao, .int .i64 az] 31)).alloc (.cells (tuA cs md bk ht) 40)).alloc (.cells mt0 36)) = w0 at F0 ⊢
  have y4 := F0.out.bx.c 4 (.int .i64 m.U) rfl
  have y5 := F0.out.bx.c 5 (.int .u64 m.C) rfl
  have y6 := F0.out.bx.c 6 (.int .i64 m.H) rfl
  have y7 := F0.out.bx.c 7 (.int .i64 m.K) rfl
  have y12 := F0.out.bx.c 12 (.slice m.ep m.en m.ec) rfl
  have y13 := F0.out.bx.c 13 (.slice m.gp m.gn m.gc) rfl
  have y14 : w0.cell? ⟨w.heap.size, 14, none⟩ = some (.bool false) := (by have q := F0.out.bx.c 14 (.bool m.on) rfl; rw [h3'.out] at q; exact q)
  have t0 := F0.out.te0 0 (.int .u64 to.n) rfl
  have t1 := F0.out.te0 1 (.string to.a) rfl
  have t2 := F0.out.te0 2 (.string to.b) rfl
  have t3 := F0.out.te0 3 (.string to.c) rfl
  have t4 := F0.out.te0 4 (.string to.d) rfl
  have a0 := F0.out.ar0 0 (.int .i64 ao) rfl
  have a1 := F0.out.ar0 1 (.int .i64 az) rfl
  have u0 := F0.out.tu0 0 (.string cs) rfl
  have u1 := F0.out.tu0 1 (.int .i64 md) rfl
  have u2 := F0.out.tu0 2 (.bool bk) rfl
  have u3 := F0.out.tu0 3 (.int .u64 (ht : Nat)) rfl
  go_upto_region 99 with (first | (go_at_call 18; refine (HM.out _).mono ?_; intro e5 w5 hh5; obtain ⟨he5, hb5⟩ := hh5.out; subst he5; have F5 := F0.out.below hb5; have y4 := F5.bx.c 4 (.int .i64 m.U) rfl; have y5 := F5.bx.c 5 (.int .u64 m.C) rfl; have y6 := F5.bx.c 6 (.int .i64 m.H) rfl; have y7 := F5.bx.c 7 (.int .i64 m.K) rfl; have y12 := F5.bx.c 12 (.slice m.ep m.en m.ec) rfl; have y13 := F5.bx.c 13 (.slice m.gp m.gn m.gc) rfl; have y14 : w5.cell? ⟨w.heap.size, 14, none⟩ = some (.bool false) := (by have q := F5.bx.c 14 (.bool m.on) rfl; rw [h3'.out] at q; exact q); have t0 := F5.te0 0 (.int .u64 to.n) rfl; have t1 := F5.te0 1 (.string to.a) rfl; have t2 := F5.te0 2 (.string to.b) rfl; have t3 := F5.te0 3 (.string to.c) rfl; have t4 := F5.te0 4 (.string to.d) rfl; have a0 := F5.ar0 0 (.int .i64 ao) rfl; have a1 := F5.ar0 1 (.int .i64 az) rfl; have u0 := F5.tu0 0 (.string cs) rfl; have u1 := F5.tu0 1 (.int .i64 md) rfl; have u2 := F5.tu0 2 (.bool bk) rfl; have u3 := F5.tu0 3 (.int .u64 (ht : Nat)) rfl) | (go_at_call 19; refine (HAr.out _).mono ?_; intro e6 w6 hh6; obtain ⟨he6, hb6⟩ := hh6.out; subst he6; have F6 := F5.below hb6; have y4 := F6.bx.c 4 (.int .i64 m.U) rfl; have y5 := F6.bx.c 5 (.int .u64 m.C) rfl; have y6 := F6.bx.c 6 (.int .i64 m.H) rfl; have y7 := F6.bx.c 7 (.int .i64 m.K) rfl; have y12 := F6.bx.c 12 (.slice m.ep m.en m.ec) rfl; have y13 := F6.bx.c 13 (.slice m.gp m.gn m.gc) rfl; have y14 : w6.cell? ⟨w.heap.size, 14, none⟩ = some (.bool false) := (by have q := F6.bx.c 14 (.bool m.on) rfl; rw [h3'.out] at q; exact q); have t0 := F6.te0 0 (.int .u64 to.n) rfl; have t1 := F6.te0 1 (.string to.a) rfl; have t2 := F6.te0 2 (.string to.b) rfl; have t3 := F6.te0 3 (.string to.c) rfl; have t4 := F6.te0 4 (.string to.d) rfl; have a0 := F6.ar0 0 (.int .i64 ao) rfl; have a1 := F6.ar0 1 (.int .i64 az) rfl; have u0 := F6.tu0 0 (.string cs) rfl; have u1 := F6.tu0 1 (.int .i64 md) rfl; have u2 := F6.tu0 2 (.bool bk) rfl; have u3 := F6.tu0 3 (.int .u64 (ht : Nat)) rfl) | (go_at_call 20; refine (HNw.out _ F6.bel).mono ?_; intro e7 w7 hh7; obtain ⟨he7, hb7⟩ := hh7.out; subst he7; have F7 := F6.below hb7; have y4 := F7.bx.c 4 (.int .i64 m.U) rfl; have y5 := F7.bx.c 5 (.int .u64 m.C) rfl; have y6 := F7.bx.c 6 (.int .i64 m.H) rfl; have y7 := F7.bx.c 7 (.int .i64 m.K) rfl; have y12 := F7.bx.c 12 (.slice m.ep m.en m.ec) rfl; have y13 := F7.bx.c 13 (.slice m.gp m.gn m.gc) rfl; have y14 : w7.cell? ⟨w.heap.size, 14, none⟩ = some (.bool false) := (by have q := F7.bx.c 14 (.bool m.on) rfl; rw [h3'.out] at q; exact q); have t0 := F7.te0 0 (.int .u64 to.n) rfl; have t1 := F7.te0 1 (.string to.a) rfl; have t2 := F7.te0 2 (.string to.b) rfl; have t3 := F7.te0 3 (.string to.c) rfl; have t4 := F7.te0 4 (.string to.d) rfl; have a0 := F7.ar0 0 (.int .i64 ao) rfl; have a1 := F7.ar0 1 (.int .i64 az) rfl; have u0 := F7.tu0 0 (.string cs) rfl; have u1 := F7.tu0 1 (.int .i64 md) rfl; have u2 := F7.tu0 2 (.bool bk) rfl; have u3 := F7.tu0 3 (.int .u64 (ht : Nat)) rfl) | (refine wpList_store_box (by rfl) (.tmp 8) _ (by rfl) mtZ (w.heap.size + 4) mt0 (by rfl) (by rfl) F7.rs rfl ?_; intro WF bnF stF))
  refine bodyPost_ret (results_cell_two (P := Try.prog) (p := 8) (u := 9) (ty := 36) rfl _ WF (w.heap.size + 4) 36 (mtC mtZ) (0, 0) _ rfl bnF Try.underlying36 rfl (by rw [info36s]; rfl)) rfl ?_
  exact ⟨rfl, F7.bel.trans (stF.below (by omega) (by have := F7.sz; omega))⟩
set_option maxHeartbeats 8000000 in
set_option maxRecDepth 100000 in
theorem begin_7 (m : Mt) (hot : Nat) (EL : List Epo) (f : Nat → Int × Int × Int) (to : Epo) (ao az : Int) (cs : ByteArray) (md : Int) (bk : Bool) (ht : Nat) (hz9 : az ≤ 9223372036854775807) (w : World) (O : Hid (MetaOk w m hot EL f)) (h1 : mayB m.U m.C m.H m.K = true) (h2 : ¬ m.en = 0) (h3 : m.on = false) (h4 : areaB m.U m.H m.K ao az md ht = true) (h5 : ¬ hasB EL to.n m.en) (h6 : to.a.toList = cs.toList) (h7 : ¬ OneP m EL f) : Calls Try.prog 7 #[.agg (mtC m), .agg (epA to), .agg #[.int .i64 ao, .int .i64 az], .agg (tuA cs md bk ht)] w fun e w' => Hid (e = .returned (.tuple #[.agg mt0, .int .i64 2]) ∧ Below w.heap.size w w') := by
  have HM : Hid (∀ u, Calls Try.prog 18 #[.agg #[.int .i64 m.U, .int .u64 m.C, .int .i64 m.H, .int .i64 m.K]] u fun e w' => Hid (e = .returned (.bool true) ∧ Below u.heap.size u w')) := fun u => by
    have q := may_ok m.U m.C m.H m.K O.out.hC u
    rw [h1] at q
    exact q
  obtain ⟨qu, qh, k4, k2, _, qc, qlt⟩ := mayB_all h1
  have hr := headB_range qh
  have hH1 : 0 ≤ m.H := by omega
  have hH2 : m.H ≤ 4194304 := hr.2
  have k1 : 0 ≤ m.K := by omega
  have qe : ((m.en : Int) == 0) = false := by simp; omega
  have h3' : Hid (m.on = false) := h3
  have HAr : Hid (∀ u, Calls Try.prog 19 #[.agg #[.int .i64 m.U, .int .u64 m.C, .int .i64 m.H, .int .i64 m.K], .agg #[.int .i64 ao, .int .i64 az], .int .i64 md, .int .u64 (ht : Nat)] u fun e w' => Hid (e = .returned (.bool true) ∧ Below u.heap.size u w')) := fun u => by
    have q := area_ok m.U m.C m.H m.K ao az md ht u hH1 hH2 k1 k2 hz9
    rw [h4] at q
    exact q
  have HNw : Hid (∀ u, Below w.heap.size w u → Calls Try.prog 20 #[.slice m.ep m.en m.ec, .agg (epA to)] u fun e w' => Hid (e = .returned (.bool true) ∧ Below u.heap.size u w')) := fun u hu => by
    refine (newest_ok m.ep m.en m.ec EL to O.out.hen (Nat.le_trans O.out.hn0 (by omega)) u (O.out.e1.below hu)).mono ?_
    intro e w' hh
    obtain ⟨⟨b, he, hb⟩, hB⟩ := hh.out
    refine ⟨?_, hB⟩
    rw [he, hb.2 h5]
  have HOn : Hid (∀ u, Below w.heap.size w u → Calls Try.prog 21 #[.agg (mtC m)] u fun e w' => Hid (e = .returned (.bool false) ∧ Below u.heap.size u w')) := fun u hu => by
    refine (one_ok m hot EL f u (O.out.below hu) h1).mono ?_
    rintro e w' ⟨b, he, hb, hB⟩
    refine ⟨?_, hB⟩
    cases b
    · exact he
    · exact absurd (hb.1 rfl) h7
  clear h1 h2 h3 h4 h5 h7 qu qh k4 k2 qc qlt hr hH1 hH2 k1
  have F0 : Hid (Bg5 w (((((w.alloc (.cells (mtC m) 36)).alloc (.cells (epA to) 38)).alloc (.cells #[.int .i64 ao, .int .i64 az] 31)).alloc (.cells (tuA cs md bk ht) 40)).alloc (.cells mt0 36)) m to ao az cs md bk ht) := five_new w m to ao az cs md bk ht
  go_enter Try.func7, Try.ntmps7
  go_upto_region 1 with fail
  generalize (((((w.alloc (.cells (mtC m) 36)).alloc (.cells (epA to) 38)).alloc (.cells #[.int .i64 ao, .int .i64 az] 31)).alloc (.cells (tuA cs md bk ht) 40)).alloc (.cells mt0 36)) = w0 at F0 ⊢
  have y4 := F0.out.bx.c 4 (.int .i64 m.U) rfl
  have y5 := F0.out.bx.c 5 (.int .u64 m.C) rfl
  have y6 := F0.out.bx.c 6 (.int .i64 m.H) rfl
  have y7 := F0.out.bx.c 7 (.int .i64 m.K) rfl
  have y12 := F0.out.bx.c 12 (.slice m.ep m.en m.ec) rfl
  have y13 := F0.out.bx.c 13 (.slice m.gp m.gn m.gc) rfl
  have y14 : w0.cell? ⟨w.heap.size, 14, none⟩ = some (.bool false) := (by have q := F0.out.bx.c 14 (.bool m.on) rfl; rw [h3'.out] at q; exact q)
  have t0 := F0.out.te0 0 (.int .u64 to.n) rfl
  have t1 := F0.out.te0 1 (.string to.a) rfl
  have t2 := F0.out.te0 2 (.string to.b) rfl
  have t3 := F0.out.te0 3 (.string to.c) rfl
  have t4 := F0.out.te0 4 (.string to.d) rfl
  have a0 := F0.out.ar0 0 (.int .i64 ao) rfl
  have a1 := F0.out.ar0 1 (.int .i64 az) rfl
  have u0 := F0.out.tu0 0 (.string cs) rfl
  have u1 := F0.out.tu0 1 (.int .i64 md) rfl
  have u2 := F0.out.tu0 2 (.bool bk) rfl
  have u3 := F0.out.tu0 3 (.int .u64 (ht : Nat)) rfl
  go_upto_region 99 with (first | (go_at_call 18; refine (HM.out _).mono ?_; intro e5 w5 hh5; obtain ⟨he5, hb5⟩ := hh5.out; subst he5; have F5 := F0.out.below hb5; have y4 := F5.bx.c 4 (.int .i64 m.U) rfl; have y5 := F5.bx.c 5 (.int .u64 m.C) rfl; have y6 := F5.bx.c 6 (.int .i64 m.H) rfl; have y7 := F5.bx.c 7 (.int .i64 m.K) rfl; have y12 := F5.bx.c 12 (.slice m.ep m.en m.ec) rfl; have y13 := F5.bx.c 13 (.slice m.gp m.gn m.gc) rfl; have y14 : w5.cell? ⟨w.heap.size, 14, none⟩ = some (.bool false) := (by have q := F5.bx.c 14 (.bool m.on) rfl; rw [h3'.out] at q; exact q); have t0 := F5.te0 0 (.int .u64 to.n) rfl; have t1 := F5.te0 1 (.string to.a) rfl; have t2 := F5.te0 2 (.string to.b) rfl; have t3 := F5.te0 3 (.string to.c) rfl; have t4 := F5.te0 4 (.string to.d) rfl; have a0 := F5.ar0 0 (.int .i64 ao) rfl; have a1 := F5.ar0 1 (.int .i64 az) rfl; have u0 := F5.tu0 0 (.string cs) rfl; have u1 := F5.tu0 1 (.int .i64 md) rfl; have u2 := F5.tu0 2 (.bool bk) rfl; have u3 := F5.tu0 3 (.int .u64 (ht : Nat)) rfl) | (go_at_call 19; refine (HAr.out _).mono ?_; intro e6 w6 hh6; obtain ⟨he6, hb6⟩ := hh6.out; subst he6; have F6 := F5.below hb6; have y4 := F6.bx.c 4 (.int .i64 m.U) rfl; have y5 := F6.bx.c 5 (.int .u64 m.C) rfl; have y6 := F6.bx.c 6 (.int .i64 m.H) rfl; have y7 := F6.bx.c 7 (.int .i64 m.K) rfl; have y12 := F6.bx.c 12 (.slice m.ep m.en m.ec) rfl; have y13 := F6.bx.c 13 (.slice m.gp m.gn m.gc) rfl; have y14 : w6.cell? ⟨w.heap.size, 14, none⟩ = some (.bool false) := (by have q := F6.bx.c 14 (.bool m.on) rfl; rw [h3'.out] at q; exact q); have t0 := F6.te0 0 (.int .u64 to.n) rfl; have t1 := F6.te0 1 (.string to.a) rfl; have t2 := F6.te0 2 (.string to.b) rfl; have t3 := F6.te0 3 (.string to.c) rfl; have t4 := F6.te0 4 (.string to.d) rfl; have a0 := F6.ar0 0 (.int .i64 ao) rfl; have a1 := F6.ar0 1 (.int .i64 az) rfl; have u0 := F6.tu0 0 (.string cs) rfl; have u1 := F6.tu0 1 (.int .i64 md) rfl; have u2 := F6.tu0 2 (.bool bk) rfl; have u3 := F6.tu0 3 (.int .u64 (ht : Nat)) rfl) | (go_at_call 20; refine (HNw.out _ F6.bel).mono ?_; intro e7 w7 hh7; obtain ⟨he7, hb7⟩ := hh7.out; subst he7; have F7 := F6.below hb7; have y4 := F7.bx.c 4 (.int .i64 m.U) rfl; have y5 := F7.bx.c 5 (.int .u64 m.C) rfl; have y6 := F7.bx.c 6 (.int .i64 m.H) rfl; have y7 := F7.bx.c 7 (.int .i64 m.K) rfl; have y12 := F7.bx.c 12 (.slice m.ep m.en m.ec) rfl; have y13 := F7.bx.c 13 (.slice m.gp m.gn m.gc) rfl; have y14 : w7.cell? ⟨w.heap.size, 14, none⟩ = some (.bool false) := (by have q := F7.bx.c 14 (.bool m.on) rfl; rw [h3'.out] at q; exact q); have t0 := F7.te0 0 (.int .u64 to.n) rfl; have t1 := F7.te0 1 (.string to.a) rfl; have t2 := F7.te0 2 (.string to.b) rfl; have t3 := F7.te0 3 (.string to.c) rfl; have t4 := F7.te0 4 (.string to.d) rfl; have a0 := F7.ar0 0 (.int .i64 ao) rfl; have a1 := F7.ar0 1 (.int .i64 az) rfl; have u0 := F7.tu0 0 (.string cs) rfl; have u1 := F7.tu0 1 (.int .i64 md) rfl; have u2 := F7.tu0 2 (.bool bk) rfl; have u3 := F7.tu0 3 (.int .u64 (ht : Nat)) rfl) | (go_at_call 21; refine (HOn.out _ F7.bel).mono ?_; intro e8 w8 hh8; obtain ⟨he8, hb8⟩ := hh8.out; subst he8; have F8 := F7.below hb8) | (refine wpList_load_want (by rfl) 36 (.tmp 4) (by rfl) w.heap.size 0 (by rfl) (mtC m).toList _ F7.bx.range Try.underlying36 rfl (size36 m) ?_) | (refine wpList_store_box (by rfl) (.tmp 8) _ (by rfl) mtZ (w.heap.size + 4) mt0 (by rfl) (by rfl) F8.rs rfl ?_; intro WF bnF stF))
  refine bodyPost_ret (results_cell_two (P := Try.prog) (p := 8) (u := 9) (ty := 36) rfl _ WF (w.heap.size + 4) 36 (mtC mtZ) (0, 0) _ rfl bnF Try.underlying36 rfl (by rw [info36s]; rfl)) rfl ?_
  exact ⟨rfl, F8.bel.trans (stF.below (by omega) (by have := F8.sz; omega))⟩
end Go.Proofs.Ytmfnhdflmnmooaa
namespace Go.Proofs.Ytmfnhdflmnmooaa
open Go.RowKit
set_option linter.unusedVariables false
set_option linter.unusedSimpArgs false
set_option maxRecDepth 100000 in
set_option maxHeartbeats 3200000 in
theorem sameT_ok (p1 p2 : Option Addr) (n c1 c2 : Nat) (T T2 : List Tk) (htn : Hid (T.length = n)) (htn2 : Hid (T2.length = n)) (hn : n ≤ 1000000000000000) (w : World) (t1 : Hid (RV tkL 4 w p1 T)) (t2 : Hid (RV tkL 4 w p2 T2)) (tE : Hid (TkE w T T2)) :
    Calls Try.prog 32 #[.slice p1 n c1, .slice p2 n c2] w fun e w' => e = .returned (.bool true) ∧ Below w.heap.size w w' := by
  go_enter Try.func32, Try.ntmps32
  go_wp2
  go_loopw [5] (fun i wr => ∃ k : Nat, k ≤ n ∧ i = .int .i64 k ∧ Hid (Below w.heap.size w wr)) (fun i _ => n - (intOf i).toNat)
  case atStart => exact ⟨0, Nat.zero_le _, rfl, Below.refl _ _⟩
  case round =>
    obtain ⟨k, hk, rfl, HS⟩ := hrel
    by_cases hlt : k < n
    · obtain ⟨x, hx⟩ : ∃ x, T[k]? = some x := ⟨T[k]'(by have := htn.out; omega), List.getElem?_eq_getElem _⟩
      obtain ⟨y, hy⟩ : ∃ y, T2[k]? = some y := ⟨T2[k]'(by have := htn2.out; omega), List.getElem?_eq_getElem _⟩
      obtain ⟨ba, oa, hpa, hba, ca⟩ := (t1.out.below HS.out).get hx
      obtain ⟨bb, ob, hpb, hbb, cb⟩ := (t2.out.below HS.out).get hy
      obtain ⟨q1, q2, q3, zs, v1, v2⟩ := tE.out k x y hx hy
      subst hpa hpb
      have a0 : wr.cell? ⟨ba, oa + k * 4, none⟩ = some (.int .i64 x.n) := by have := ca 0 _ rfl; simpa using this
      have a1 : wr.cell? ⟨ba, oa + k * 4 + 1, none⟩ = some (.string x.s) := by have := ca 1 _ rfl; simpa using this
      have a2 : wr.cell? ⟨ba, oa + k * 4 + 2, none⟩ = some (.slice x.p x.l x.c) := by have := ca 2 _ rfl; simpa using this
      have a3 : wr.cell? ⟨ba, oa + k * 4 + 3, none⟩ = some (.string x.z) := by have := ca 3 _ rfl; simpa using this
      have c0 : wr.cell? ⟨bb, ob + k * 4, none⟩ = some (.int .i64 y.n) := by have := cb 0 _ rfl; simpa using this
      have c1 : wr.cell? ⟨bb, ob + k * 4 + 1, none⟩ = some (.string y.s) := by have := cb 1 _ rfl; simpa using this
      have c2 : wr.cell? ⟨bb, ob + k * 4 + 2, none⟩ = some (.slice y.p y.l y.c) := by have := cb 2 _ rfl; simpa using this
      have c3 : wr.cell? ⟨bb, ob + k * 4 + 3, none⟩ = some (.string y.z) := by have := cb 3 _ rfl; simpa using this
      rw [← q1] at c0
      rw [← q2] at c1
      rw [← q3] at c3
      have H57 : ∀ m, Calls Try.prog 57 #[.slice x.p x.l x.c, .slice y.p y.l y.c] (wr.drewN m) fun e w' => e = .returned (.bool true) ∧ ∃ j, w' = (wr.drewN m).drewN j := fun m =>
        (sameI_any _ _ zs zs (wr.drewN m) (v1.kept (w' := wr.drewN m) (fun k hk => HS.out.block k hk)) (v2.kept (w' := wr.drewN m) (fun k hk => HS.out.block k hk))).mono fun e w' h => by simpa using h
      clear ca cb hx hy t1 t2 tE q1 q2 q3 v1 v2
      go_upto_region 6 with fail
      go_quiet (first | (go_at_call 57; refine Calls.quiet_of (H57 _)))
      go_wp2
      exact ⟨⟨k + 1, by omega, by go_num, HS.out.trans ⟨rfl, rfl, rfl, Nat.le_refl _, fun _ _ => rfl⟩⟩, by simp [intOf]; omega⟩
    · go_wp2
      go_ret
      exact ⟨rfl, HS.out⟩
end Go.Proofs.Ytmfnhdflmnmooaa
namespace Go.Proofs.Ytmfnhdflmnmooaa
open Go.RowKit
set_option linter.unusedVariables false
set_option linter.unusedSimpArgs false
theorem TkE.below {w w' : World} {T T2 : List Tk} (h : TkE w T T2) (hb : Below w.heap.size w w') : TkE w' T T2 := fun i x y hx hy => by
  obtain ⟨q1, q2, q3, zs, v1, v2⟩ := h i x y hx hy
  exact ⟨q1, q2, q3, zs, v1.kept hb.block, v2.kept hb.block⟩
set_option maxHeartbeats 4000000 in
set_option maxRecDepth 100000 in
theorem same10 (m : Mt) (q : Ptr) (SL : List Slo) (EL : List Epo) (f : Nat → Int × Int × Int) (T T2 : List Tk) (hsn : Hid (SL.length = m.sn)) (hen : Hid (EL.length = m.en)) (htn : Hid (T.length = m.tn)) (htn2 : Hid (T2.length = m.tn)) (b1 : m.sn ≤ 1000000000000000) (b2 : m.en ≤ 1000000000000000) (b3 : m.gn ≤ 1000000000000000) (b4 : m.tn ≤ 1000000000000000) (w : World)
    (s1 : Hid (RV sloL 9 w m.sp SL)) (s2 : Hid (RV sloL 9 w q.sp SL)) (e1 : Hid (RV epoL 5 w m.ep EL)) (e2 : Hid (RV epoL 5 w q.ep EL)) (g1 : Hid (SegV w (.slice m.gp m.gn m.gc) m.gn f)) (g2 : Hid (SegV w (.slice q.gp m.gn q.gc) m.gn f)) (t1 : Hid (RV tkL 4 w m.tp T)) (t2 : Hid (RV tkL 4 w q.tp T2)) (tE : Hid (TkE w T T2)) :
    Calls Try.prog 10 #[.agg (mtC m), .agg (mtC (m.at q))] w fun e w' => e = .returned (.bool true) ∧ Below w.heap.size w w' := by
  have st := SmR.start w m (m.at q)
  have bx := st.1
  have bz := st.2.1
  have ST : Hid (SmR w ((w.alloc (.cells (mtC m) 36)).alloc (.cells (mtC (m.at q)) 36)) m (m.at q)) := st
  clear st
  have y0 := bx.c 0 (.string m.lab) rfl
  have y1 := bx.c 1 (.string m.sub) rfl
  have y2 := bx.c 2 (.string m.uid) rfl
  have y3 := bx.c 3 (.string m.hst) rfl
  have y4 := bx.c 4 (.int .i64 m.U) rfl
  have y5 := bx.c 5 (.int .u64 m.C) rfl
  have y6 := bx.c 6 (.int .i64 m.H) rfl
  have y7 := bx.c 7 (.int .i64 m.K) rfl
  have y8 := bx.c 8 (.int .i64 m.tur) rfl
  have y9 := bx.c 9 (.string m.slt) rfl
  have y10 := bx.c 10 (.string m.dig) rfl
  have y11 := bx.c 11 (.slice m.sp m.sn m.sc) rfl
  have y12 := bx.c 12 (.slice m.ep m.en m.ec) rfl
  have y13 := bx.c 13 (.slice m.gp m.gn m.gc) rfl
  have y14 := bx.c 14 (.bool m.on) rfl
  have y15 := bx.c 15 (.int .u64 (m.fr : Nat)) rfl
  have y16 := bx.c 16 (.int .u64 (m.to : Nat)) rfl
  have y17 := bx.c 17 (.bool m.back) rfl
  have y18 := bx.c 18 (.int .i64 m.mode) rfl
  have y19 := bx.c 19 (.int .u64 m.hot) rfl
  have y20 := bx.c 20 (.int .u64 (m.done : Nat)) rfl
  have y21 := bx.c 21 (.int .i64 m.ao) rfl
  have y22 := bx.c 22 (.int .i64 m.az) rfl
  have y23 := bx.c 23 (.bool m.act) rfl
  have y24 := bx.c 24 (.int .u64 m.cnt) rfl
  have y25 := bx.c 25 (.string m.sum) rfl
  have y26 := bx.c 26 (.slice m.tp m.tn m.tc) rfl
  have z0 := bz.c 0 (.string m.lab) rfl
  have z1 := bz.c 1 (.string m.sub) rfl
  have z2 := bz.c 2 (.string m.uid) rfl
  have z3 := bz.c 3 (.string m.hst) rfl
  have z4 := bz.c 4 (.int .i64 m.U) rfl
  have z5 := bz.c 5 (.int .u64 m.C) rfl
  have z6 := bz.c 6 (.int .i64 m.H) rfl
  have z7 := bz.c 7 (.int .i64 m.K) rfl
  have z8 := bz.c 8 (.int .i64 m.tur) rfl
  have z9 := bz.c 9 (.string m.slt) rfl
  have z10 := bz.c 10 (.string m.dig) rfl
  have z11 := bz.c 11 (.slice q.sp m.sn q.sc) rfl
  have z12 := bz.c 12 (.slice q.ep m.en q.ec) rfl
  have z13 := bz.c 13 (.slice q.gp m.gn q.gc) rfl
  have z14 := bz.c 14 (.bool m.on) rfl
  have z15 := bz.c 15 (.int .u64 (m.fr : Nat)) rfl
  have z16 := bz.c 16 (.int .u64 (m.to : Nat)) rfl
  have z17 := bz.c 17 (.bool m.back) rfl
  have z18 := bz.c 18 (.int .i64 m.mode) rfl
  have z19 := bz.c 19 (.int .u64 m.hot) rfl
  have z20 := bz.c 20 (.int .u64 (m.done : Nat)) rfl
  have z21 := bz.c 21 (.int .i64 m.ao) rfl
  have z22 := bz.c 22 (.int .i64 m.az) rfl
  have z23 := bz.c 23 (.bool m.act) rfl
  have z24 := bz.c 24 (.int .u64 m.cnt) rfl
  have z25 := bz.c 25 (.string m.sum) rfl
  have z26 := bz.c 26 (.slice q.tp m.tn q.tc) rfl
  have q24 : ∀ u, (Op.equalIn 10000 24 (.agg #[.int .i64 m.U, .int .u64 m.C, .int .i64 m.H, .int .i64 m.K]) (.agg #[.int .i64 m.U, .int .u64 m.C, .int .i64 m.H, .int .i64 m.K])).run Try.prog u = .ok true u := fun u => eq24 _ _ _ _ u
  have q26 : ∀ u, (Op.equalIn 10000 26 (.agg #[.int .i64 m.tur, .string m.slt, .string m.dig]) (.agg #[.int .i64 m.tur, .string m.slt, .string m.dig])).run Try.prog u = .ok true u := fun u => eq26 _ _ _ u
  have q33 : ∀ u, (Op.equalIn 10000 33 (.agg #[.bool m.on, .int .u64 (m.fr : Nat), .int .u64 (m.to : Nat), .bool m.back, .int .i64 m.mode, .int .u64 m.hot, .int .u64 (m.done : Nat), .int .i64 m.ao, .int .i64 m.az, .bool m.act, .int .u64 m.cnt, .string m.sum]) (.agg #[.bool m.on, .int .u64 (m.fr : Nat), .int .u64 (m.to : Nat), .bool m.back, .int .i64 m.mode, .int .u64 m.hot, .int .u64 (m.done : Nat), .int .i64 m.ao, .int .i64 m.az, .bool m.act, .int .u64 m.cnt, .string m.sum])).run Try.prog u = .ok true u := fun u => eq33 _ _ _ _ _ _ _ _ _ _ _ _ u
  clear bx bz
  go_enter Try.func10, Try.ntmps10
  go_wp2
  have ST1 := ST
  clear y0 z0 y1 z1 y2 z2 y3 z3 y4 z4 y5 z5 y6 z6 y7 z7 y8 z8 y9 z9 y10 z10 y11 z11 y12 z12 y13 z13 y14 z14 y15 z15 y16 z16 y17 z17 y18 z18 y19 z19 y20 z20 y21 z21 y22 z22 y23 z23 y24 z24 y25 z25 y26 z26 q24 q26 q33
  go_loopw [5] (fun i wr => ∃ k : Nat, k ≤ m.sn ∧ i = .int .i64 k ∧ Hid (SmR w wr m (m.at q))) (fun i _ => m.sn - (intOf i).toNat)
  case atStart => exact ⟨0, Nat.zero_le _, rfl, ST1⟩
  case round =>
    obtain ⟨k, hk, rfl, HS⟩ := hrel
    clear ST1 ST
    have y11 := HS.out.1.c 11 (.slice m.sp m.sn m.sc) rfl
    have z11 := HS.out.2.1.c 11 (.slice q.sp m.sn q.sc) rfl
    by_cases hlt : k < m.sn
    · obtain ⟨x, hx⟩ : ∃ x, SL[k]? = some x := ⟨SL[k]'(by have := hsn.out; omega), List.getElem?_eq_getElem _⟩
      obtain ⟨ba, oa, hpa, hba, ca⟩ := (s1.out.below HS.out.2.2.1).get hx
      obtain ⟨bb, ob, hpb, hbb, cb⟩ := (s2.out.below HS.out.2.2.1).get hx
      rw [hpa] at y11
      rw [hpb] at z11
      have a0 : wr.cell? ⟨ba, oa + k * 9, none⟩ = some (.int .i64 x.n) := by have := ca 0 _ rfl; simpa using this
      have a1 : wr.cell? ⟨ba, oa + k * 9 + 1, none⟩ = some (.int .i64 x.p) := by have := ca 1 _ rfl; simpa using this
      have a2 : wr.cell? ⟨ba, oa + k * 9 + 2, none⟩ = some (.int .i64 x.h) := by have := ca 2 _ rfl; simpa using this
      have a3 : wr.cell? ⟨ba, oa + k * 9 + 3, none⟩ = some (.int .i64 x.t) := by have := ca 3 _ rfl; simpa using this
      have a4 : wr.cell? ⟨ba, oa + k * 9 + 4, none⟩ = some (.string x.s) := by have := ca 4 _ rfl; simpa using this
      have a5 : wr.cell? ⟨ba, oa + k * 9 + 5, none⟩ = some (.string x.c) := by have := ca 5 _ rfl; simpa using this
      have a6 : wr.cell? ⟨ba, oa + k * 9 + 6, none⟩ = some (.int .i64 x.st) := by have := ca 6 _ rfl; simpa using this
      have a7 : wr.cell? ⟨ba, oa + k * 9 + 7, none⟩ = some (.int .i64 x.o) := by have := ca 7 _ rfl; simpa using this
      have a8 : wr.cell? ⟨ba, oa + k * 9 + 8, none⟩ = some (.int .i64 x.z) := by have := ca 8 _ rfl; simpa using this
      have c0 : wr.cell? ⟨bb, ob + k * 9, none⟩ = some (.int .i64 x.n) := by have := cb 0 _ rfl; simpa using this
      have c1 : wr.cell? ⟨bb, ob + k * 9 + 1, none⟩ = some (.int .i64 x.p) := by have := cb 1 _ rfl; simpa using this
      have c2 : wr.cell? ⟨bb, ob + k * 9 + 2, none⟩ = some (.int .i64 x.h) := by have := cb 2 _ rfl; simpa using this
      have c3 : wr.cell? ⟨bb, ob + k * 9 + 3, none⟩ = some (.int .i64 x.t) := by have := cb 3 _ rfl; simpa using this
      have c4 : wr.cell? ⟨bb, ob + k * 9 + 4, none⟩ = some (.string x.s) := by have := cb 4 _ rfl; simpa using this
      have c5 : wr.cell? ⟨bb, ob + k * 9 + 5, none⟩ = some (.string x.c) := by have := cb 5 _ rfl; simpa using this
      have c6 : wr.cell? ⟨bb, ob + k * 9 + 6, none⟩ = some (.int .i64 x.st) := by have := cb 6 _ rfl; simpa using this
      have c7 : wr.cell? ⟨bb, ob + k * 9 + 7, none⟩ = some (.int .i64 x.o) := by have := cb 7 _ rfl; simpa using this
      have c8 : wr.cell? ⟨bb, ob + k * 9 + 8, none⟩ = some (.int .i64 x.z) := by have := cb 8 _ rfl; simpa using this
      have HQ : ∀ u, (Op.equalIn 10000 63 (.agg #[.int .i64 x.n, .int .i64 x.p, .int .i64 x.h, .int .i64 x.t, .string x.s, .string x.c, .int .i64 x.st, .int .i64 x.o, .int .i64 x.z]) (.agg #[.int .i64 x.n, .int .i64 x.p, .int .i64 x.h, .int .i64 x.t, .string x.s, .string x.c, .int .i64 x.st, .int .i64 x.o, .int .i64 x.z])).run Try.prog u = .ok true u := fun u => eq47 _ _ _ _ _ _ _ _ _ u
      clear ca cb hpa hpb hx s1 s2 e1 e2 t1 t2 tE
      go_wp2
      go_quiet (fail)
      go_wp2
      go_roundw
      case rel => exact ⟨k + 1, by omega, by go_num, HS.out.step (below_drewN _ _)⟩
      case measure => simp [intOf]; omega
    · go_wp2
      clear s1 s2 y11 z11
      go_loopw [6] (fun i wr => ∃ k : Nat, k ≤ m.en ∧ i = .int .i64 k ∧ Hid (SmR w wr m (m.at q))) (fun i _ => m.en - (intOf i).toNat)
      case atStart => exact ⟨0, Nat.zero_le _, rfl, HS⟩
      case round =>
        clear HS hlt hk
        obtain ⟨k, hk, rfl, HS⟩ := hrel
        have y12 := HS.out.1.c 12 (.slice m.ep m.en m.ec) rfl
        have z12 := HS.out.2.1.c 12 (.slice q.ep m.en q.ec) rfl
        by_cases hlt : k < m.en
        · obtain ⟨x, hx⟩ : ∃ x, EL[k]? = some x := ⟨EL[k]'(by have := hen.out; omega), List.getElem?_eq_getElem _⟩
          obtain ⟨ba, oa, hpa, hba, ca⟩ := (e1.out.below HS.out.2.2.1).get hx
          obtain ⟨bb, ob, hpb, hbb, cb⟩ := (e2.out.below HS.out.2.2.1).get hx
          rw [hpa] at y12
          rw [hpb] at z12
          have a0 : wr.cell? ⟨ba, oa + k * 5, none⟩ = some (.int .u64 x.n) := by have := ca 0 _ rfl; simpa using this
          have a1 : wr.cell? ⟨ba, oa + k * 5 + 1, none⟩ = some (.string x.a) := by have := ca 1 _ rfl; simpa using this
          have a2 : wr.cell? ⟨ba, oa + k * 5 + 2, none⟩ = some (.string x.b) := by have := ca 2 _ rfl; simpa using this
          have a3 : wr.cell? ⟨ba, oa + k * 5 + 3, none⟩ = some (.string x.c) := by have := ca 3 _ rfl; simpa using this
          have a4 : wr.cell? ⟨ba, oa + k * 5 + 4, none⟩ = some (.string x.d) := by have := ca 4 _ rfl; simpa using this
          have c0 : wr.cell? ⟨bb, ob + k * 5, none⟩ = some (.int .u64 x.n) := by have := cb 0 _ rfl; simpa using this
          have c1 : wr.cell? ⟨bb, ob + k * 5 + 1, none⟩ = some (.string x.a) := by have := cb 1 _ rfl; simpa using this
          have c2 : wr.cell? ⟨bb, ob + k * 5 + 2, none⟩ = some (.string x.b) := by have := cb 2 _ rfl; simpa using this
          have c3 : wr.cell? ⟨bb, ob + k * 5 + 3, none⟩ = some (.string x.c) := by have := cb 3 _ rfl; simpa using this
          have c4 : wr.cell? ⟨bb, ob + k * 5 + 4, none⟩ = some (.string x.d) := by have := cb 4 _ rfl; simpa using this
          have HQ : ∀ u, (Op.equalIn 10000 38 (.agg #[.int .u64 x.n, .string x.a, .string x.b, .string x.c, .string x.d]) (.agg #[.int .u64 x.n, .string x.a, .string x.b, .string x.c, .string x.d])).run Try.prog u = .ok true u := fun u => eq49 _ _ _ _ _ u
          clear ca cb hpa hpb hx e1 e2 t1 t2 tE
          go_wp2
          go_quiet (fail)
          go_wp2
          go_roundw
          case rel => exact ⟨k + 1, by omega, by go_num, HS.out.step (below_drewN _ _)⟩
          case measure => simp [intOf]; omega
        · have y13 := HS.out.1.c 13 (.slice m.gp m.gn m.gc) rfl
          have z13 := HS.out.2.1.c 13 (.slice q.gp m.gn q.gc) rfl
          go_wp2_with (first
            | (go_at_call 31; refine (same_any b3 _ (g1.out.below HS.out.2.2.1) (g2.out.below HS.out.2.2.1)).mono ?_; rintro e w1 ⟨rfl, gr1⟩; have S1 : Hid (SmR w w1 m (m.at q)) := HS.out.step ((Below.refl _ _).grown gr1 (Nat.le_refl _) (by intro k hk; cases hk)); clear gr1; have y26 := S1.out.1.c 26 (.slice m.tp m.tn m.tc) rfl; have z26 := S1.out.2.1.c 26 (.slice q.tp m.tn q.tc) rfl)
            | (go_at_call 32; refine (sameT_ok m.tp q.tp m.tn m.tc q.tc T T2 htn htn2 b4 _ (t1.out.below S1.out.2.2.1) (t2.out.below S1.out.2.2.1) (tE.out.below S1.out.2.2.1)).mono ?_; rintro e w2 ⟨rfl, hb2⟩))
          go_ret
          exact ⟨rfl, S1.out.2.2.1.trans (hb2.mono S1.out.2.2.1.size)⟩
end Go.Proofs.Ytmfnhdflmnmooaa
namespace Go.Proofs.Ytmfnhdflmnmooaa
open Go.RowKit
set_option linter.unusedVariables false
set_option linter.unusedSimpArgs false
/-- Two marks behind a list. -/
def Mk2 (w : World) (p : Option Addr) (n c sz o : Nat) (v1 v2 : Value) : Prop := ∃ g, p = some ⟨g, 0, none⟩ ∧ n + 2 ≤ c ∧ c ≤ 9223372036854775807 ∧ w.cell? ⟨g, n * sz + o, none⟩ = some v1 ∧ w.cell? ⟨g, (n + 1) * sz + o, none⟩ = some v2
theorem Mk2.below {w w' : World} {p : Option Addr} {n c sz o : Nat} {v1 v2 : Value} (h : Mk2 w p n c sz o v1 v2) (hB : Below w.heap.size w w') : Mk2 w' p n c sz o v1 v2 := by
  obtain ⟨g, hp, h1, h2, h3, h4⟩ := h
  exact ⟨g, hp, h1, h2, cell_below hB h3, cell_below hB h4⟩
set_option maxHeartbeats 8000000 in
set_option maxRecDepth 100000 in
theorem unt_ok (m : Mt) (q : Ptr) (SL : List Slo) (EL : List Epo) (f : Nat → Int × Int × Int) (T T2 : List Tk) (B : Nat) (hsn : Hid (SL.length = m.sn)) (hen : Hid (EL.length = m.en)) (htn : Hid (T.length = m.tn)) (htn2 : Hid (T2.length = m.tn)) (b1 : m.sn ≤ 1000000000000000) (b2 : m.en ≤ 1000000000000000) (b3 : m.gn ≤ 1000000000000000) (b4 : m.tn ≤ 1000000000000000) (w : World)
    (s1 : Hid (RV sloL 9 w m.sp SL)) (s2 : Hid (RV sloL 9 w q.sp SL)) (e1 : Hid (RV epoL 5 w m.ep EL)) (e2 : Hid (RV epoL 5 w q.ep EL)) (g1 : Hid (SegV w (.slice m.gp m.gn m.gc) m.gn f)) (g2 : Hid (SegV w (.slice q.gp m.gn q.gc) m.gn f)) (t1 : Hid (RV tkL 4 w m.tp T)) (t2 : Hid (RV tkL 4 w q.tp T2)) (tM : Hid (TkM B w T T2))
    (k1 : Hid (Mk2 w m.sp m.sn m.sc 9 0 (.int .i64 501) (.int .i64 502))) (k2 : Hid (Mk2 w m.ep m.en m.ec 5 0 (.int .u64 501) (.int .u64 502))) (k3 : Hid (Mk2 w m.gp m.gn m.gc 3 2 (.int .u64 501) (.int .u64 502))) (k4 : Hid (Mk2 w m.tp m.tn m.tc 4 0 (.int .i64 501) (.int .i64 502))) :
    Calls Try.prog 11 #[.agg (mtC m), .agg (mtC (m.at q))] w fun e w' => e = .returned (.bool true) ∧ Below w.heap.size w w' := by
  have st := SmR.start w m (m.at q)
  have bx := st.1
  have bz := st.2.1
  have ST : Hid (SmR w ((w.alloc (.cells (mtC m) 36)).alloc (.cells (mtC (m.at q)) 36)) m (m.at q)) := st
  clear st
  have R1 : Hid (((w.alloc (.cells (mtC m) 36)).alloc (.cells (mtC (m.at q)) 36)).rangeAt w.heap.size 0 (mtC m).toList) := fun j u hj => by
    rw [Nat.zero_add]
    exact bx.c j u (by simpa using hj)
  have R2 : Hid (((w.alloc (.cells (mtC m) 36)).alloc (.cells (mtC (m.at q)) 36)).rangeAt (w.heap.size + 1) 0 (mtC (m.at q)).toList) := fun j u hj => by
    rw [Nat.zero_add]
    exact bz.c j u (by simpa using hj)
  clear bx bz
  have H10 : Hid (∀ u, Below w.heap.size w u → Calls Try.prog 10 #[.agg (mtC m), .agg (mtC (m.at q))] u fun e w' => e = .returned (.bool true) ∧ Below u.heap.size u w') := fun u hu =>
    same10 m q SL EL f T T2 hsn hen htn htn2 b1 b2 b3 b4 u (s1.out.below hu) (s2.out.below hu) (e1.out.below hu) (e2.out.below hu) (g1.out.below hu) (g2.out.below hu) (t1.out.below hu) (t2.out.below hu) (fun i x y hx hy => by
      obtain ⟨a, b, c, zs, h1, h2⟩ := tM.out.e i x y hx hy
      exact ⟨a, b, c, zs, h1.kept hu.block, h2.kept hu.block⟩)
  clear s1 s2 e1 e2 g1 g2 hsn hen
  obtain ⟨ga, p1, i1, j1, l1, l1'⟩ := k1.out
  obtain ⟨gb, p2, i2, j2, l2, l2'⟩ := k2.out
  obtain ⟨gc, p3, i3, j3, l3, l3'⟩ := k3.out
  obtain ⟨gd, p4, i4, j4, l4, l4'⟩ := k4.out
  have P1 : Hid (m.sp = some ⟨ga, 0, none⟩ ∧ w.cell? ⟨ga, m.sn * 9 + 0, none⟩ = some (.int .i64 501) ∧ w.cell? ⟨ga, (m.sn + 1) * 9 + 0, none⟩ = some (.int .i64 502)) := ⟨p1, l1, l1'⟩
  have P2 : Hid (m.ep = some ⟨gb, 0, none⟩ ∧ w.cell? ⟨gb, m.en * 5 + 0, none⟩ = some (.int .u64 501) ∧ w.cell? ⟨gb, (m.en + 1) * 5 + 0, none⟩ = some (.int .u64 502)) := ⟨p2, l2, l2'⟩
  have P3 : Hid (m.gp = some ⟨gc, 0, none⟩ ∧ w.cell? ⟨gc, m.gn * 3 + 2, none⟩ = some (.int .u64 501) ∧ w.cell? ⟨gc, (m.gn + 1) * 3 + 2, none⟩ = some (.int .u64 502)) := ⟨p3, l3, l3'⟩
  have P4 : Hid (m.tp = some ⟨gd, 0, none⟩ ∧ w.cell? ⟨gd, m.tn * 4 + 0, none⟩ = some (.int .i64 501) ∧ w.cell? ⟨gd, (m.tn + 1) * 4 + 0, none⟩ = some (.int .i64 502)) := ⟨p4, l4, l4'⟩
  clear p1 p2 p3 p4 l1 l1' l2 l2' l3 l3' l4 l4' k1 k2 k3 k4
  go_enter Try.func11, Try.ntmps11
  go_upto_region 1 with fail
  generalize (w.alloc (.cells (mtC m) 36)).alloc (.cells (mtC (m.at q)) 36) = W0 at ST R1 R2 ⊢
  go_upto_region 3 with (first
    | (refine wpList_load_mid (by rfl) 36 (.tmp 2) (by rfl) w.heap.size 0 (by rfl) (mtC m).toList _ R1.out Try.underlying36 rfl (size36 m) ?_)
    | (refine wpList_load_mid (by rfl) 36 (.tmp 3) (by rfl) (w.heap.size + 1) 0 (by rfl) (mtC (m.at q)).toList _ R2.out Try.underlying36 rfl (size36 (m.at q)) ?_)
    | (go_at_call 10; refine (H10.out _ ST.out.2.2.1).mono ?_; rintro e w1 ⟨rfl, gr1⟩; have ST1 : Hid (SmR w w1 m (m.at q)) := ST.out.step gr1))
  clear ST R1 R2 gr1 H10
  have y11 : w1.cell? ⟨w.heap.size, 11, none⟩ = some (.slice (some ⟨ga, 0, none⟩) m.sn m.sc) := by rw [← P1.out.1]; exact ST1.out.1.c 11 _ rfl
  have y12 : w1.cell? ⟨w.heap.size, 12, none⟩ = some (.slice (some ⟨gb, 0, none⟩) m.en m.ec) := by rw [← P2.out.1]; exact ST1.out.1.c 12 _ rfl
  have y13 : w1.cell? ⟨w.heap.size, 13, none⟩ = some (.slice (some ⟨gc, 0, none⟩) m.gn m.gc) := by rw [← P3.out.1]; exact ST1.out.1.c 13 _ rfl
  have y26 : w1.cell? ⟨w.heap.size, 26, none⟩ = some (.slice (some ⟨gd, 0, none⟩) m.tn m.tc) := by rw [← P4.out.1]; exact ST1.out.1.c 26 _ rfl
  go_upto_region 12 with fail
  clear y11 y12 y13 y26
  go_loopw [10] (fun i wr => ∃ k : Nat, k ≤ m.tn ∧ i = .int .i64 k ∧ Hid (SmR w wr m (m.at q))) (fun i _ => m.tn - (intOf i).toNat)
  case atStart => exact ⟨0, Nat.zero_le _, rfl, ST1⟩
  case round =>
    obtain ⟨k, hk, rfl, HS⟩ := hrel
    clear ST1
    by_cases hlt : k < m.tn
    · have y26 := HS.out.1.c 26 (.slice m.tp m.tn m.tc) rfl
      have z26 := HS.out.2.1.c 26 (.slice q.tp m.tn q.tc) rfl
      obtain ⟨x, hx⟩ : ∃ x, T[k]? = some x := ⟨T[k]'(by have := htn.out; omega), List.getElem?_eq_getElem _⟩
      obtain ⟨y, hy⟩ : ∃ y, T2[k]? = some y := ⟨T2[k]'(by have := htn2.out; omega), List.getElem?_eq_getElem _⟩
      obtain ⟨ba, oa, hpa, hba, ca⟩ := (t1.out.below HS.out.2.2.1).get hx
      obtain ⟨bb, ob, hpb, hbb, cb⟩ := (t2.out.below HS.out.2.2.1).get hy
      obtain ⟨_, _, _, zs, v1, v2⟩ := tM.out k x y hx hy
      rw [hpa] at y26
      rw [hpb] at z26
      have a2 : wr.cell? ⟨ba, oa + k * 4 + 2, none⟩ = some (.slice x.p x.l x.c) := ca 2 _ rfl
      have c2 : wr.cell? ⟨bb, ob + k * 4 + 2, none⟩ = some (.slice y.p y.l y.c) := cb 2 _ rfl
      have H33 : Hid (∀ n, Calls Try.prog 33 #[.slice x.p x.l x.c, .slice y.p y.l y.c] (wr.drewN n) fun e w' => e = .returned (.bool true) ∧ ∃ j, w' = (wr.drewN n).drewN j) := fun n => by
        have hu : Below w.heap.size w (wr.drewN n) := HS.out.2.2.1.trans ((below_drewN wr n).mono HS.out.2.2.1.size)
        exact wholeI_any _ _ zs B _ (v1.kept hu.block) (v2.kept hu.block)
      clear ca cb hpa hpb hx hy t1 t2 tM v1 v2 P1 P2 P3 P4
      go_wp2
      go_quiet ((go_at_call 33; exact Calls.quiet_of (H33.out _)))
      go_wp2
      go_roundw
      case rel => exact ⟨k + 1, by omega, by go_num, HS.out.step (below_drewN _ _)⟩
      case measure => simp [intOf]; omega
    · have hB := HS.out.2.2.1
      have x1 : wr.cell? ⟨ga, m.sn * 9, none⟩ = some (.int .i64 501) := cell_below hB P1.out.2.1
      have x2 : wr.cell? ⟨ga, (m.sn + 1) * 9, none⟩ = some (.int .i64 502) := cell_below hB P1.out.2.2
      have x3 : wr.cell? ⟨gb, m.en * 5, none⟩ = some (.int .u64 501) := cell_below hB P2.out.2.1
      have x4 : wr.cell? ⟨gb, (m.en + 1) * 5, none⟩ = some (.int .u64 502) := cell_below hB P2.out.2.2
      have x5 : wr.cell? ⟨gc, m.gn * 3 + 2, none⟩ = some (.int .u64 501) := cell_below hB P3.out.2.1
      have x6 : wr.cell? ⟨gc, (m.gn + 1) * 3 + 2, none⟩ = some (.int .u64 502) := cell_below hB P3.out.2.2
      have x7 : wr.cell? ⟨gd, m.tn * 4, none⟩ = some (.int .i64 501) := cell_below hB P4.out.2.1
      have x8 : wr.cell? ⟨gd, (m.tn + 1) * 4, none⟩ = some (.int .i64 502) := cell_below hB P4.out.2.2
      clear t1 t2 tM hB
      go_wp2
      go_ret
      exact ⟨rfl, HS.out.2.2.1⟩
end Go.Proofs.Ytmfnhdflmnmooaa
namespace Go.Proofs.Ytmfnhdflmnmooaa
open Go.RowKit
set_option linter.unusedVariables false
set_option linter.unusedSimpArgs false
theorem le_sum_of_mem (T : List Tk) (x : Tk) (h : x ∈ T) : x.l ≤ tkS T := by
  induction T with
  | nil => simp at h
  | cons y T ih =>
    simp only [tkS, List.map_cons, List.sum_cons]
    rcases List.mem_cons.1 h with rfl | h
    · omega
    · have := ih h
      unfold tkS at this
      omega
theorem segV_rv {w : World} {p : Option Addr} {n c : Nat} {GL : List (Int × Int × Int)} (h : RV sgZ 3 w p GL) (hl : GL.length = n) : SegV w (.slice p n c) n (fun i => GL.getD i (0, 0, 0)) := by
  refine ⟨p, c, rfl, fun hn => ?_⟩
  rcases h with h | ⟨b, off, hp, hb, hc⟩
  · rw [h] at hl; simp at hl; omega
  · refine ⟨b, off, hp, fun i hi => ?_⟩
    have hx : GL[i]? = some (GL.getD i (0, 0, 0)) := by
      rw [List.getD_eq_getElem?_getD, List.getElem?_eq_getElem (by omega)]
      rfl
    have q := hc i _ hx
    refine ⟨?_, q 1 _ rfl, q 2 _ rfl⟩
    have q0 := q 0 _ rfl
    simpa using q0
theorem mk2_own {α : Type} {L : α → List Value} {sz : Nat} (hL : ∀ x, (L x).length = sz) {w : World} {B e g n c o : Nat} {l : List α} {a b : α} {v1 v2 : Value} (hl : l.length = n) (h : w.ownsRow B e sz (.slice (some ⟨g, 0, none⟩) (n + 2) c) (n + 2) (l.flatMap L ++ [a, b].flatMap L)) (h1 : (L a)[o]? = some v1) (h2 : (L b)[o]? = some v2) : Mk2 w (some ⟨g, 0, none⟩) n c sz o v1 v2 := by
  have hc : n + 2 ≤ c ∧ c ≤ maxLen := by
    rcases h.2 with ⟨q, _⟩ | ⟨g', c', cur, he, _, _, q1, q2, _⟩
    · cases q
    · cases he; exact ⟨q1, q2⟩
  have hr : RV L sz w (some ⟨g, 0, none⟩) (l ++ [a, b]) := by
    refine rv_own hL (rest := []) (e := e) (B := B) (N := n + 2) (c := c) ?_
    rw [List.append_nil, List.flatMap_append]
    exact h
  refine ⟨g, rfl, hc.1, by have := hc.2; unfold maxLen at this; omega, ?_, ?_⟩
  · obtain ⟨b', o', hp, _, q⟩ := hr.get (k := n) (x := a) (by rw [List.getElem?_append_right (by omega), hl, Nat.sub_self]; rfl)
    simp only [Option.some.injEq, Addr.mk.injEq] at hp
    obtain ⟨rfl, rfl, _⟩ := hp
    have := q o v1 h1
    simpa using this
  · obtain ⟨b', o', hp, _, q⟩ := hr.get (k := n + 1) (x := b) (by rw [List.getElem?_append_right (by omega), hl, Nat.add_sub_cancel_left]; rfl)
    simp only [Option.some.injEq, Addr.mk.injEq] at hp
    obtain ⟨rfl, rfl, _⟩ := hp
    have := q o v2 h2
    simpa using this
theorem own_cap {w : World} {B e sz g n c : Nat} {xs : List Value} (h : w.ownsRow B e sz (.slice (some ⟨g, 0, none⟩) n c) n xs) : n ≤ c ∧ c ≤ 9223372036854775807 := by
  rcases h.2 with ⟨q, _⟩ | ⟨g', c', cur, he, _, _, q1, q2, _⟩
  · cases q
  · cases he; exact ⟨q1, by unfold maxLen at q2; omega⟩
/-- Metadata that came in: all that the laws' walks ask. -/
structure MtO (W : World) (m : Mt) (hot : Nat) (SL : List Slo) (EL : List Epo) (GL : List (Int × Int × Int)) (T : List Tk) : Prop where
  hC : 0 ≤ m.C
  hC9 : m.C ≤ 18446744073709551615
  hh : m.hot = (hot : Int)
  hz : m.az ≤ 9223372036854775807
  hsz : m.sum.size ≤ 9223372036854775807
  hsn : SL.length = m.sn
  hen : EL.length = m.en
  hgn : GL.length = m.gn
  htn : T.length = m.tn
  y1 : (m.sn + 2) * 88 ≤ 140737488355328
  y2 : (m.en + 2) * 72 ≤ 140737488355328
  y3 : (m.gn + 2) * 24 ≤ 140737488355328
  y4 : (m.tn + 2) * 64 ≤ 140737488355328
  z1 : m.sp = none → m.sc = 0
  z2 : m.ep = none → m.ec = 0
  z3 : m.gp = none → m.gc = 0
  z4 : m.tp = none → m.tc = 0
  c1 : m.gn ≤ m.gc
  c2 : m.gc ≤ 9223372036854775807
  s1 : RV sloL 9 W m.sp SL
  e1 : RV epoL 5 W m.ep EL
  g1 : RV sgZ 3 W m.gp GL
  t1 : RV tkL 4 W m.tp T
  tV : ∀ (i : Nat) (x : Tk), T[i]? = some x → x.l ≤ 1000000000000000 ∧ ∃ zs, zs.length = x.l ∧ View W (.slice x.p x.l x.c) zs
theorem MtO.ok {W : World} {m : Mt} {hot : Nat} {SL : List Slo} {EL : List Epo} {GL : List (Int × Int × Int)} {T : List Tk} (h : MtO W m hot SL EL GL T) : MetaOk W m hot EL (fun i => GL.getD i (0, 0, 0)) :=
  ⟨h.hC, h.hC9, h.hh, h.hz, h.hsz, h.c1, h.c2, by have := h.y3; omega, h.hen, by have := h.y2; omega, h.e1, segV_rv h.g1 h.hgn⟩
/-- The copy beside the original. -/
structure Fx (B : Nat) (b0 b3 : Nat) (m : Mt) (g1 k1 g2 k2 g3 k3 g4 k4 : Nat) (SL : List Slo) (EL : List Epo) (GL : List (Int × Int × Int)) (T T' : List Tk) (W : World) : Prop where
  bx : Bx W b0 m
  bn : Bx W b3 (cpM m g1 k1 g2 k2 g3 k3 (some ⟨g4, 0, none⟩) m.tn k4)
  s1 : RV sloL 9 W (some ⟨g1, 0, none⟩) SL
  e1 : RV epoL 5 W (some ⟨g2, 0, none⟩) EL
  q1 : SegV W (.slice (some ⟨g3, 0, none⟩) m.gn k3) m.gn (fun i => GL.getD i (0, 0, 0))
  t1 : RV tkL 4 W (some ⟨g4, 0, none⟩) T'
  l1 : T'.length = m.tn
  tm : TkM B W T' T
  m1 : Mk2 W (some ⟨g1, 0, none⟩) m.sn k1 9 0 (.int .i64 501) (.int .i64 502)
  m2 : Mk2 W (some ⟨g2, 0, none⟩) m.en k2 5 0 (.int .u64 501) (.int .u64 502)
  m3 : Mk2 W (some ⟨g3, 0, none⟩) m.gn k3 3 2 (.int .u64 501) (.int .u64 502)
  m4 : Mk2 W (some ⟨g4, 0, none⟩) m.tn k4 4 0 (.int .i64 501) (.int .i64 502)
theorem TkM.below {B : Nat} {w w' : World} {T T2 : List Tk} (h : TkM B w T T2) (hb : Below w.heap.size w w') : TkM B w' T T2 := fun i x y hx hy => by
  obtain ⟨a, b, c, zs, h1, h2⟩ := h i x y hx hy
  exact ⟨a, b, c, zs, h1.kept hb.block, h2.kept hb.block⟩
theorem Fx.below {B b0 b3 : Nat} {m : Mt} {g1 k1 g2 k2 g3 k3 g4 k4 : Nat} {SL : List Slo} {EL : List Epo} {GL : List (Int × Int × Int)} {T T' : List Tk} {W W' : World} (h : Fx B b0 b3 m g1 k1 g2 k2 g3 k3 g4 k4 SL EL GL T T' W) (hb : Below W.heap.size W W') : Fx B b0 b3 m g1 k1 g2 k2 g3 k3 g4 k4 SL EL GL T T' W' :=
  ⟨h.bx.below hb, h.bn.below hb, h.s1.below hb, h.e1.below hb, h.q1.below hb, h.t1.below hb, h.l1, h.tm.below hb, h.m1.below hb, h.m2.below hb, h.m3.below hb, h.m4.below hb⟩
theorem Fx.ok {B b0 b3 : Nat} {m : Mt} {g1 k1 g2 k2 g3 k3 g4 k4 hot : Nat} {SL : List Slo} {EL : List Epo} {GL : List (Int × Int × Int)} {T T' : List Tk} {W w : World} (h : Fx B b0 b3 m g1 k1 g2 k2 g3 k3 g4 k4 SL EL GL T T' W) (o : MtO w m hot SL EL GL T) : MetaOk W (cpM m g1 k1 g2 k2 g3 k3 (some ⟨g4, 0, none⟩) m.tn k4) hot EL (fun i => GL.getD i (0, 0, 0)) :=
  ⟨o.hC, o.hC9, o.hh, o.hz, o.hsz, by obtain ⟨g, _, q, _⟩ := h.m3; show m.gn ≤ k3; omega, by obtain ⟨g, _, _, q, _⟩ := h.m3; exact q, by have := o.y3; show m.gn ≤ _; omega, o.hen, by have := o.y2; show m.en ≤ _; omega, h.e1, h.q1⟩
set_option maxHeartbeats 8000000 in
set_option maxRecDepth 100000 in
theorem nexts_ok (m : Mt) (hot : Nat) (SL : List Slo) (EL : List Epo) (GL : List (Int × Int × Int)) (T : List Tk) (w : World) (O : Hid (MtO w m hot SL EL GL T)) :
    Calls Try.prog 4 #[.agg (mtC m)] w fun e w' => e = .returned (.bool true) ∧ Below w.heap.size w w' := by
  obtain ⟨W0, hW0⟩ : ∃ W0, W0 = w.alloc (.cells (mtC m) 36) := ⟨_, rfl⟩
  have B0 : Hid (Below w.heap.size w W0) := by rw [hW0]; exact (Below.refl _ w).alloc (Nat.le_refl _) _
  have X0 : Hid (Bx W0 w.heap.size m) := by rw [hW0]; exact World.alloc_heap_new w _
  have H5 : Hid (Calls Try.prog 5 #[.agg (mtC m)] W0 fun e w' => WideP T e ∧ Below W0.heap.size W0 w') := by
    refine wide_any m T (by have := O.out.y4; omega) (fun i x hx => (O.out.tV i x hx).1) W0 ⟨O.out.htn, ?_⟩
    rcases (O.out.t1.below B0.out) with h | h
    · left; have := O.out.htn; rw [h] at this; simpa using this.symm
    · exact .inr h
  go_enter Try.func4, Try.ntmps4
  go_upto_region 1 with fail
  rw [← hW0]
  clear hW0
  go_upto_if 11 with (first | (refine wpList_load_mid (by rfl) 36 (.tmp 1) (by rfl) w.heap.size 0 (by rfl) (mtC m).toList _ X0.out.range Try.underlying36 rfl (size36 _) ?_) | (go_at_call 5; refine H5.out.mono ?_; rintro e1 w1 ⟨⟨r, rfl, hr⟩, hb1⟩))
  clear H5
  have HR : Hid (r = false → tkS T ≤ 65536) := hr
  have HB1 : Hid (Below W0.heap.size W0 w1) := hb1
  clear hr hb1
  cases r
  case true =>
    go_wp2
    go_ret
    exact ⟨rfl, B0.out.trans (HB1.out.mono B0.out.size)⟩
  case false =>
    have hr := HR.out rfl
    have HB : Hid (Below w.heap.size w w1) := B0.out.trans (HB1.out.mono B0.out.size)
    have X1 : Hid (Bx w1 w.heap.size m) := X0.out.below HB1.out
    have H6 : Hid (Calls Try.prog 6 #[.agg (mtC m)] w1 fun e w' => RmP w1 m SL EL GL T e w') := by
      refine roomy_ok m SL EL GL T w1 O.out.hsn O.out.hen O.out.hgn O.out.htn O.out.y1 O.out.y2 O.out.y3 O.out.y4 O.out.z1 O.out.z2 O.out.z3 O.out.z4 (O.out.s1.below HB.out) (O.out.e1.below HB.out) (O.out.g1.below HB.out) (O.out.t1.below HB.out) (fun i x hx => ?_)
      obtain ⟨_, zs, hz, hv⟩ := O.out.tV i x hx
      have hxl : x.l ≤ tkS T := le_sum_of_mem T x (List.mem_of_getElem? hx)
      exact ⟨by omega, zs, hv.kept HB.out.block⟩
    clear HR hr X0 B0 HB1
    go_upto_region 4 with (first | (refine wpList_load_mid (by rfl) 36 (.tmp 1) (by rfl) w.heap.size 0 (by rfl) (mtC m).toList _ X1.out.range Try.underlying36 rfl (size36 _) ?_) | (go_at_call 6; refine H6.out.mono ?_; rintro e2 w2 ⟨g1, k1, g2, k2, g3, k3, g4, k4, T', rfl, tl, RR, TH, tb⟩) | (refine wpList_alloc_box (by rfl) (by rfl) ?_; intro W3 b3 hb3 hbl3 he3 hz3) | (refine wpList_store_box (by rfl) (.tmp 3) (.tmp 13) (by rfl) (cpM m g1 k1 g2 k2 g3 k3 (some ⟨g4, 0, none⟩) m.tn k4) b3 mt0 (by rfl) (by rfl) hb3 rfl ?_; intro W4 bn4 st4))
    simp only [Act.put, List.setIfInBounds_toArray, List.set_cons_zero, List.set_cons_succ]
    have S24 : Below w2.heap.size w2 W4 := hbl3.trans (st4.below (by omega) (by rw [hz3]; omega))
    have HB2 : Below w.heap.size w w2 := HB.out.trans (tb.mono HB.out.size)
    have FX : Hid (Fx (w1.heap.size + 2) w.heap.size b3 m g1 k1 g2 k2 g3 k3 g4 k4 SL EL GL T T' W4) := by
      have R := RR.below S24
      refine ⟨(X1.out.below tb).below S24, bn4, rv_own sloL_len R.o1, rv_own epoL_len R.o2, segV_rv (rv_own sgZ_len R.o3) O.out.hgn, rv_own tkL_len R.o4, tl, ?_, mk2_own sloL_len O.out.hsn R.o1 rfl rfl, mk2_own epoL_len O.out.hen R.o2 rfl rfl, mk2_own sgZ_len O.out.hgn R.o3 rfl rfl, mk2_own tkL_len tl R.o4 rfl rfl⟩
      intro i x y hx hy
      obtain ⟨a, b, c, zs, hv, h1, _⟩ := (TH.below S24) i x y hx hy
      have hi : i < T'.length := (List.getElem?_eq_some_iff.1 hx).1
      exact ⟨a, b, c, zs, h1 (by omega), hv.kept (tb.trans (S24.mono tb.size)).block⟩
    have HBW : Hid (Below w.heap.size w W4) := HB2.trans (S24.mono HB2.size)
    clear RR TH tb tl bn4 st4 hb3 hbl3 he3 hz3 S24 HB2 HB X1 H6
    have H14 : Hid (Calls Try.prog 14 #[.agg (mtC (cpM m g1 k1 g2 k2 g3 k3 (some ⟨g4, 0, none⟩) m.tn k4))] W4 fun e w' => ∃ (a n : Nat) (c : Int), e = .returned (.tuple #[.int .u64 (a : Nat), .int .u64 (n : Nat), .int .i64 c]) ∧ NextP m hot EL (fun i => GL.getD i (0, 0, 0)) a n c ∧ Below W4.heap.size W4 w') := next_ok (cpM m g1 k1 g2 k2 g3 k3 (some ⟨g4, 0, none⟩) m.tn k4) hot EL _ W4 (FX.out.ok O.out)
    go_upto_region 5 with (first | (refine wpList_load_mid (by rfl) 36 (.tmp 3) (by rfl) b3 0 (by rfl) (mtC (cpM m g1 k1 g2 k2 g3 k3 (some ⟨g4, 0, none⟩) m.tn k4)).toList _ FX.out.bn.range Try.underlying36 rfl (size36 _) ?_) | (go_at_call 14; refine H14.out.mono ?_; rintro e5 W5 ⟨a5, n5, c5, rfl, hN5, hb5⟩))
    have FX5 : Hid (Fx (w1.heap.size + 2) w.heap.size b3 m g1 k1 g2 k2 g3 k3 g4 k4 SL EL GL T T' W5) := FX.out.below hb5
    have HBW5 : Hid (Below w.heap.size w W5) := HBW.out.trans (hb5.mono HBW.out.size)
    have HN5 : Hid (NextP m hot EL (fun i => GL.getD i (0, 0, 0)) a5 n5 c5) := hN5
    clear H14 FX HBW hb5 hN5
    have H15 : Hid (Calls Try.prog 15 #[.agg (mtC m)] W5 fun e w' => Hid (e = .returned (.tuple #[.int .u64 (a5 : Nat), .int .u64 (n5 : Nat), .int .i64 c5]) ∧ Below W5.heap.size W5 w')) := by
      refine (rnext_ok m hot EL _ W5 (O.out.ok.below HBW5.out)).mono ?_
      rintro e w' ⟨a, n, c, rfl, hP, hb⟩
      obtain ⟨rfl, rfl, rfl⟩ := hP.one HN5.out
      exact ⟨rfl, hb⟩
    clear HN5
    go_upto_region 6 with (first | (refine wpList_load_mid (by rfl) 36 (.tmp 1) (by rfl) w.heap.size 0 (by rfl) (mtC m).toList _ FX5.out.bx.range Try.underlying36 rfl (size36 _) ?_) | (go_at_call 15; refine H15.out.mono ?_; intro e6 W6 hh6; obtain ⟨he6, hb6⟩ := hh6.out; subst he6))
    have FX6 : Hid (Fx (w1.heap.size + 2) w.heap.size b3 m g1 k1 g2 k2 g3 k3 g4 k4 SL EL GL T T' W6) := FX5.out.below hb6
    have HBW6 : Hid (Below w.heap.size w W6) := HBW5.out.trans (hb6.mono HBW5.out.size)
    clear H15 FX5 HBW5 hb6 hh6
    have HNum : Hid (∀ v, Calls Try.prog 9 #[.int .i64 c5] v fun e w' => e = .returned (.int .i64 c5) ∧ w' = v) := fun v => num_ok c5 v
    have HRo : Hid (∀ v, Calls Try.prog 13 #[.int .i64 1024, .int .i64 2, .int .u64 33] v fun e w' => e = .returned (.bool true) ∧ w' = v) := fun v => rooms_ok 1024 2 33 v
    have HU : Hid (Calls Try.prog 11 #[.agg (mtC (cpM m g1 k1 g2 k2 g3 k3 (some ⟨g4, 0, none⟩) m.tn k4)), .agg (mtC m)] W6 fun e w' => e = .returned (.bool true) ∧ Below W6.heap.size W6 w') :=
      unt_ok (cpM m g1 k1 g2 k2 g3 k3 (some ⟨g4, 0, none⟩) m.tn k4) ⟨m.sp, m.sc, m.ep, m.ec, m.gp, m.gc, m.tp, m.tc⟩ SL EL (fun i => GL.getD i (0, 0, 0)) T' T (w1.heap.size + 2) O.out.hsn O.out.hen FX6.out.l1 O.out.htn (by have := O.out.y1; show m.sn ≤ _; omega) (by have := O.out.y2; show m.en ≤ _; omega) (by have := O.out.y3; show m.gn ≤ _; omega) (by have := O.out.y4; show m.tn ≤ _; omega) W6 FX6.out.s1 (O.out.s1.below HBW6.out) FX6.out.e1 (O.out.e1.below HBW6.out) FX6.out.q1 ((segV_rv O.out.g1 O.out.hgn).below HBW6.out) FX6.out.t1 (O.out.t1.below HBW6.out) FX6.out.tm FX6.out.m1 FX6.out.m2 FX6.out.m3 FX6.out.m4
    go_wp2_with (first
      | (go_at_call 9; refine (HNum.out _).mono ?_; rintro e7 w7 ⟨rfl, hw7⟩; obtain rfl := hw7.symm)
      | (go_at_call 11; refine HU.out.mono ?_; rintro e8 W8 ⟨rfl, hb8⟩)
      | (go_at_call 13; refine (HRo.out _).mono ?_; rintro e9 w9 ⟨rfl, hw9⟩; obtain rfl := hw9.symm)
      | (refine wpList_load_want (by rfl) 36 (.tmp 3) (by rfl) b3 0 (by rfl) (mtC (cpM m g1 k1 g2 k2 g3 k3 (some ⟨g4, 0, none⟩) m.tn k4)).toList _ FX6.out.bn.range Try.underlying36 rfl (size36 _) ?_)
      | (refine wpList_load_want (by rfl) 36 (.tmp 1) (by rfl) w.heap.size 0 (by rfl) (mtC m).toList _ FX6.out.bx.range Try.underlying36 rfl (size36 _) ?_))
    go_ret
    exact ⟨rfl, HBW6.out.trans (hb8.mono HBW6.out.size)⟩
end Go.Proofs.Ytmfnhdflmnmooaa
