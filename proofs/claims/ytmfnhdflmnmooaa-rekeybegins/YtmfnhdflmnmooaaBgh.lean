import Derived.Test.YtmfnhdflmnmooaaBgg
import Derived.Test.YtmfnhdflmnmooaaPart05
namespace Go.Proofs.Ytmfnhdflmnmooaa
open Go.RowKit
set_option linter.unusedVariables false
set_option linter.unusedSimpArgs false
set_option maxHeartbeats 16000000 in
set_option maxRecDepth 100000 in
theorem rbegin_1 (m : Mt) (hot : Nat) (SL : List Slo) (EL : List Epo) (GL : List (Int × Int × Int)) (T : List Tk) (to : Epo) (ao az : Int) (cs : ByteArray) (md : Int) (bk : Bool) (ht : Nat) (hz9 : az ≤ 9223372036854775807) (w : World) (O : Hid (MtO w m hot SL EL GL T)) (h1 : mayB m.U m.C m.H m.K = false) : Calls Try.prog 8 #[.agg (mtC m), .agg (epA to), .agg #[.int .i64 ao, .int .i64 az], .agg (tuA cs md bk ht)] w fun e w' => Hid (e = .returned (.tuple #[.agg mt0, .int .i64 2]) ∧ Below w.heap.size w w') := by
  have HM : Hid (∀ u, Calls Try.prog 26 #[.agg #[.int .i64 m.U, .int .u64 m.C, .int .i64 m.H, .int .i64 m.K]] u fun e w' => Hid (e = .returned (.bool false) ∧ Below u.heap.size u w')) := fun u => by
    have q := shaped_ok m.U m.C m.H m.K O.out.hC O.out.hC9 u
    rw [h1] at q
    exact q
  clear h1
  have F0 : Hid (Bg5 w (((((w.alloc (.cells (mtC m) 36)).alloc (.cells (epA to) 38)).alloc (.cells #[.int .i64 ao, .int .i64 az] 31)).alloc (.cells (tuA cs md bk ht) 40)).alloc (.cells mt0 36)) m to ao az cs md bk ht) := five_new w m to ao az cs md bk ht
  go_enter Try.func8, Try.ntmps8
  go_upto_region 1 with fail
  generalize (((((w.alloc (.cells (mtC m) 36)).alloc (.cells (epA to) 38)).alloc (.cells #[.int .i64 ao, .int .i64 az] 31)).alloc (.cells (tuA cs md bk ht) 40)).alloc (.cells mt0 36)) = w0 at F0 ⊢
  have y4 := F0.out.bx.c 4 (.int .i64 m.U) rfl
  have y5 := F0.out.bx.c 5 (.int .u64 m.C) rfl
  have y6 := F0.out.bx.c 6 (.int .i64 m.H) rfl
  have y7 := F0.out.bx.c 7 (.int .i64 m.K) rfl
  have y12 := F0.out.bx.c 12 (.slice m.ep m.en m.ec) rfl
  have y13 := F0.out.bx.c 13 (.slice m.gp m.gn m.gc) rfl
  have y14 := F0.out.bx.c 14 (.bool m.on) rfl
  have t0 := F0.out.te0 0 (.int .u64 to.n) rfl
  have t1 := F0.out.te0 1 (.string to.a) rfl
  have t2 := F0.out.te0 2 (.string to.b) rfl
  have t3 := F0.out.te0 3 (.string to.c) rfl
  have t4 := F0.out.te0 4 (.string to.d) rfl
  have a0 := F0.out.ar0 0 (.int .i64 ao) rfl
  have a1 := F0.out.ar0 1 (.int .i64 az) rfl
  have u0 := F0.out.tu0 0 (.string cs) rfl
  have u1 := F0.out.tu0 1 (.int .i64 md) rfl
  have u2 := F0.out.tu0 2 (.bool bk) rfl
  have u3 := F0.out.tu0 3 (.int .u64 (ht : Nat)) rfl
  go_upto_region 99 with (first | (go_at_call 26; refine (HM.out _).mono ?_; intro e5 w5 hh5; obtain ⟨he5, hb5⟩ := hh5.out; subst he5; have F5 := F0.out.below hb5; have y4 := F5.bx.c 4 (.int .i64 m.U) rfl; have y5 := F5.bx.c 5 (.int .u64 m.C) rfl; have y6 := F5.bx.c 6 (.int .i64 m.H) rfl; have y7 := F5.bx.c 7 (.int .i64 m.K) rfl; have y12 := F5.bx.c 12 (.slice m.ep m.en m.ec) rfl; have y13 := F5.bx.c 13 (.slice m.gp m.gn m.gc) rfl; have y14 := F5.bx.c 14 (.bool m.on) rfl; have t0 := F5.te0 0 (.int .u64 to.n) rfl; have t1 := F5.te0 1 (.string to.a) rfl; have t2 := F5.te0 2 (.string to.b) rfl; have t3 := F5.te0 3 (.string to.c) rfl; have t4 := F5.te0 4 (.string to.d) rfl; have a0 := F5.ar0 0 (.int .i64 ao) rfl; have a1 := F5.ar0 1 (.int .i64 az) rfl; have u0 := F5.tu0 0 (.string cs) rfl; have u1 := F5.tu0 1 (.int .i64 md) rfl; have u2 := F5.tu0 2 (.bool bk) rfl; have u3 := F5.tu0 3 (.int .u64 (ht : Nat)) rfl) | (refine wpList_store_box (by rfl) (.tmp 8) _ (by rfl) mtZ (w.heap.size + 4) mt0 (by rfl) (by rfl) F5.rs rfl ?_; intro WF bnF stF))
  refine bodyPost_ret (results_cell_two (P := Try.prog) (p := 8) (u := 9) (ty := 36) rfl _ WF (w.heap.size + 4) 36 (mtC mtZ) (0, 0) _ rfl bnF Try.underlying36 rfl (by rw [info36s]; rfl)) rfl ?_
  exact ⟨rfl, F5.bel.trans (stF.below (by omega) (by have := F5.sz; omega))⟩
set_option maxHeartbeats 16000000 in
set_option maxRecDepth 100000 in
theorem rbegin_2 (m : Mt) (hot : Nat) (SL : List Slo) (EL : List Epo) (GL : List (Int × Int × Int)) (T : List Tk) (to : Epo) (ao az : Int) (cs : ByteArray) (md : Int) (bk : Bool) (ht : Nat) (hz9 : az ≤ 9223372036854775807) (w : World) (O : Hid (MtO w m hot SL EL GL T)) (h1 : mayB m.U m.C m.H m.K = true) (h2 : m.en = 0) : Calls Try.prog 8 #[.agg (mtC m), .agg (epA to), .agg #[.int .i64 ao, .int .i64 az], .agg (tuA cs md bk ht)] w fun e w' => Hid (e = .returned (.tuple #[.agg mt0, .int .i64 2]) ∧ Below w.heap.size w w') := by
  have HM : Hid (∀ u, Calls Try.prog 26 #[.agg #[.int .i64 m.U, .int .u64 m.C, .int .i64 m.H, .int .i64 m.K]] u fun e w' => Hid (e = .returned (.bool true) ∧ Below u.heap.size u w')) := fun u => by
    have q := shaped_ok m.U m.C m.H m.K O.out.hC O.out.hC9 u
    rw [h1] at q
    exact q
  obtain ⟨qu, qh, k4, k2, _, qc, qlt⟩ := mayB_all h1
  have hr := headB_range qh
  have hH1 : 0 ≤ m.H := by omega
  have hH2 : m.H ≤ 4194304 := hr.2
  have k1 : 0 ≤ m.K := by omega
  have qe : ((m.en : Int) == 0) = true := by simp [h2]
  clear h1 h2 hH1 hH2 k1 k2 k4 qu qh qc qlt hr
  have F0 : Hid (Bg5 w (((((w.alloc (.cells (mtC m) 36)).alloc (.cells (epA to) 38)).alloc (.cells #[.int .i64 ao, .int .i64 az] 31)).alloc (.cells (tuA cs md bk ht) 40)).alloc (.cells mt0 36)) m to ao az cs md bk ht) := five_new w m to ao az cs md bk ht
  go_enter Try.func8, Try.ntmps8
  go_upto_region 1 with fail
  generalize (((((w.alloc (.cells (mtC m) 36)).alloc (.cells (epA to) 38)).alloc (.cells #[.int .i64 ao, .int .i64 az] 31)).alloc (.cells (tuA cs md bk ht) 40)).alloc (.cells mt0 36)) = w0 at F0 ⊢
  have y4 := F0.out.bx.c 4 (.int .i64 m.U) rfl
  have y5 := F0.out.bx.c 5 (.int .u64 m.C) rfl
  have y6 := F0.out.bx.c 6 (.int .i64 m.H) rfl
  have y7 := F0.out.bx.c 7 (.int .i64 m.K) rfl
  have y12 := F0.out.bx.c 12 (.slice m.ep m.en m.ec) rfl
  have y13 := F0.out.bx.c 13 (.slice m.gp m.gn m.gc) rfl
  have y14 := F0.out.bx.c 14 (.bool m.on) rfl
  have t0 := F0.out.te0 0 (.int .u64 to.n) rfl
  have t1 := F0.out.te0 1 (.string to.a) rfl
  have t2 := F0.out.te0 2 (.string to.b) rfl
  have t3 := F0.out.te0 3 (.string to.c) rfl
  have t4 := F0.out.te0 4 (.string to.d) rfl
  have a0 := F0.out.ar0 0 (.int .i64 ao) rfl
  have a1 := F0.out.ar0 1 (.int .i64 az) rfl
  have u0 := F0.out.tu0 0 (.string cs) rfl
  have u1 := F0.out.tu0 1 (.int .i64 md) rfl
  have u2 := F0.out.tu0 2 (.bool bk) rfl
  have u3 := F0.out.tu0 3 (.int .u64 (ht : Nat)) rfl
  go_upto_region 99 with (first | (go_at_call 26; refine (HM.out _).mono ?_; intro e5 w5 hh5; obtain ⟨he5, hb5⟩ := hh5.out; subst he5; have F5 := F0.out.below hb5; have y4 := F5.bx.c 4 (.int .i64 m.U) rfl; have y5 := F5.bx.c 5 (.int .u64 m.C) rfl; have y6 := F5.bx.c 6 (.int .i64 m.H) rfl; have y7 := F5.bx.c 7 (.int .i64 m.K) rfl; have y12 := F5.bx.c 12 (.slice m.ep m.en m.ec) rfl; have y13 := F5.bx.c 13 (.slice m.gp m.gn m.gc) rfl; have y14 := F5.bx.c 14 (.bool m.on) rfl; have t0 := F5.te0 0 (.int .u64 to.n) rfl; have t1 := F5.te0 1 (.string to.a) rfl; have t2 := F5.te0 2 (.string to.b) rfl; have t3 := F5.te0 3 (.string to.c) rfl; have t4 := F5.te0 4 (.string to.d) rfl; have a0 := F5.ar0 0 (.int .i64 ao) rfl; have a1 := F5.ar0 1 (.int .i64 az) rfl; have u0 := F5.tu0 0 (.string cs) rfl; have u1 := F5.tu0 1 (.int .i64 md) rfl; have u2 := F5.tu0 2 (.bool bk) rfl; have u3 := F5.tu0 3 (.int .u64 (ht : Nat)) rfl) | (refine wpList_store_box (by rfl) (.tmp 8) _ (by rfl) mtZ (w.heap.size + 4) mt0 (by rfl) (by rfl) F5.rs rfl ?_; intro WF bnF stF))
  refine bodyPost_ret (results_cell_two (P := Try.prog) (p := 8) (u := 9) (ty := 36) rfl _ WF (w.heap.size + 4) 36 (mtC mtZ) (0, 0) _ rfl bnF Try.underlying36 rfl (by rw [info36s]; rfl)) rfl ?_
  exact ⟨rfl, F5.bel.trans (stF.below (by omega) (by have := F5.sz; omega))⟩
set_option maxHeartbeats 16000000 in
set_option maxRecDepth 100000 in
theorem rbegin_3 (m : Mt) (hot : Nat) (SL : List Slo) (EL : List Epo) (GL : List (Int × Int × Int)) (T : List Tk) (to : Epo) (ao az : Int) (cs : ByteArray) (md : Int) (bk : Bool) (ht : Nat) (hz9 : az ≤ 9223372036854775807) (w : World) (O : Hid (MtO w m hot SL EL GL T)) (h1 : mayB m.U m.C m.H m.K = true) (h2 : ¬ m.en = 0) (h3 : m.on = true) : Calls Try.prog 8 #[.agg (mtC m), .agg (epA to), .agg #[.int .i64 ao, .int .i64 az], .agg (tuA cs md bk ht)] w fun e w' => Hid (e = .returned (.tuple #[.agg mt0, .int .i64 132]) ∧ Below w.heap.size w w') := by
  have HM : Hid (∀ u, Calls Try.prog 26 #[.agg #[.int .i64 m.U, .int .u64 m.C, .int .i64 m.H, .int .i64 m.K]] u fun e w' => Hid (e = .returned (.bool true) ∧ Below u.heap.size u w')) := fun u => by
    have q := shaped_ok m.U m.C m.H m.K O.out.hC O.out.hC9 u
    rw [h1] at q
    exact q
  obtain ⟨qu, qh, k4, k2, _, qc, qlt⟩ := mayB_all h1
  have hr := headB_range qh
  have hH1 : 0 ≤ m.H := by omega
  have hH2 : m.H ≤ 4194304 := hr.2
  have k1 : 0 ≤ m.K := by omega
  have qe : ((m.en : Int) == 0) = false := by simp; omega
  have h3' : Hid (m.on = true) := h3
  clear h1 h2 h3 hH1 hH2 k1 k2 k4 qu qh qc qlt hr
  have F0 : Hid (Bg5 w (((((w.alloc (.cells (mtC m) 36)).alloc (.cells (epA to) 38)).alloc (.cells #[.int .i64 ao, .int .i64 az] 31)).alloc (.cells (tuA cs md bk ht) 40)).alloc (.cells mt0 36)) m to ao az cs md bk ht) := five_new w m to ao az cs md bk ht
  go_enter Try.func8, Try.ntmps8
  go_upto_region 1 with fail
  generalize (((((w.alloc (.cells (mtC m) 36)).alloc (.cells (epA to) 38)).alloc (.cells #[.int .i64 ao, .int .i64 az] 31)).alloc (.cells (tuA cs md bk ht) 40)).alloc (.cells mt0 36)) = w0 at F0 ⊢
  have y4 := F0.out.bx.c 4 (.int .i64 m.U) rfl
  have y5 := F0.out.bx.c 5 (.int .u64 m.C) rfl
  have y6 := F0.out.bx.c 6 (.int .i64 m.H) rfl
  have y7 := F0.out.bx.c 7 (.int .i64 m.K) rfl
  have y12 := F0.out.bx.c 12 (.slice m.ep m.en m.ec) rfl
  have y13 := F0.out.bx.c 13 (.slice m.gp m.gn m.gc) rfl
  have y14 : w0.cell? ⟨w.heap.size, 14, none⟩ = some (.bool true) := (by have q := F0.out.bx.c 14 (.bool m.on) rfl; rw [h3'.out] at q; exact q)
  have t0 := F0.out.te0 0 (.int .u64 to.n) rfl
  have t1 := F0.out.te0 1 (.string to.a) rfl
  have t2 := F0.out.te0 2 (.string to.b) rfl
  have t3 := F0.out.te0 3 (.string to.c) rfl
  have t4 := F0.out.te0 4 (.string to.d) rfl
  have a0 := F0.out.ar0 0 (.int .i64 ao) rfl
  have a1 := F0.out.ar0 1 (.int .i64 az) rfl
  have u0 := F0.out.tu0 0 (.string cs) rfl
  have u1 := F0.out.tu0 1 (.int .i64 md) rfl
  have u2 := F0.out.tu0 2 (.bool bk) rfl
  have u3 := F0.out.tu0 3 (.int .u64 (ht : Nat)) rfl
  go_upto_region 99 with (first | (go_at_call 26; refine (HM.out _).mono ?_; intro e5 w5 hh5; obtain ⟨he5, hb5⟩ := hh5.out; subst he5; have F5 := F0.out.below hb5; have y4 := F5.bx.c 4 (.int .i64 m.U) rfl; have y5 := F5.bx.c 5 (.int .u64 m.C) rfl; have y6 := F5.bx.c 6 (.int .i64 m.H) rfl; have y7 := F5.bx.c 7 (.int .i64 m.K) rfl; have y12 := F5.bx.c 12 (.slice m.ep m.en m.ec) rfl; have y13 := F5.bx.c 13 (.slice m.gp m.gn m.gc) rfl; have y14 : w5.cell? ⟨w.heap.size, 14, none⟩ = some (.bool true) := (by have q := F5.bx.c 14 (.bool m.on) rfl; rw [h3'.out] at q; exact q); have t0 := F5.te0 0 (.int .u64 to.n) rfl; have t1 := F5.te0 1 (.string to.a) rfl; have t2 := F5.te0 2 (.string to.b) rfl; have t3 := F5.te0 3 (.string to.c) rfl; have t4 := F5.te0 4 (.string to.d) rfl; have a0 := F5.ar0 0 (.int .i64 ao) rfl; have a1 := F5.ar0 1 (.int .i64 az) rfl; have u0 := F5.tu0 0 (.string cs) rfl; have u1 := F5.tu0 1 (.int .i64 md) rfl; have u2 := F5.tu0 2 (.bool bk) rfl; have u3 := F5.tu0 3 (.int .u64 (ht : Nat)) rfl) | (refine wpList_store_box (by rfl) (.tmp 8) _ (by rfl) mtZ (w.heap.size + 4) mt0 (by rfl) (by rfl) F5.rs rfl ?_; intro WF bnF stF))
  refine bodyPost_ret (results_cell_two (P := Try.prog) (p := 8) (u := 9) (ty := 36) rfl _ WF (w.heap.size + 4) 36 (mtC mtZ) (0, 0) _ rfl bnF Try.underlying36 rfl (by rw [info36s]; rfl)) rfl ?_
  exact ⟨rfl, F5.bel.trans (stF.below (by omega) (by have := F5.sz; omega))⟩
set_option maxHeartbeats 16000000 in
set_option maxRecDepth 100000 in
theorem rbegin_4 (m : Mt) (hot : Nat) (SL : List Slo) (EL : List Epo) (GL : List (Int × Int × Int)) (T : List Tk) (to : Epo) (ao az : Int) (cs : ByteArray) (md : Int) (bk : Bool) (ht : Nat) (hz9 : az ≤ 9223372036854775807) (w : World) (O : Hid (MtO w m hot SL EL GL T)) (h1 : mayB m.U m.C m.H m.K = true) (h2 : ¬ m.en = 0) (h3 : m.on = false) (h4 : areaB m.U m.H m.K ao az md ht = false) : Calls Try.prog 8 #[.agg (mtC m), .agg (epA to), .agg #[.int .i64 ao, .int .i64 az], .agg (tuA cs md bk ht)] w fun e w' => Hid (e = .returned (.tuple #[.agg mt0, .int .i64 2]) ∧ Below w.heap.size w w') := by
  have HM : Hid (∀ u, Calls Try.prog 26 #[.agg #[.int .i64 m.U, .int .u64 m.C, .int .i64 m.H, .int .i64 m.K]] u fun e w' => Hid (e = .returned (.bool true) ∧ Below u.heap.size u w')) := fun u => by
    have q := shaped_ok m.U m.C m.H m.K O.out.hC O.out.hC9 u
    rw [h1] at q
    exact q
  obtain ⟨qu, qh, k4, k2, _, qc, qlt⟩ := mayB_all h1
  have hr := headB_range qh
  have hH1 : 0 ≤ m.H := by omega
  have hH2 : m.H ≤ 4194304 := hr.2
  have k1 : 0 ≤ m.K := by omega
  have qe : ((m.en : Int) == 0) = false := by simp; omega
  have h3' : Hid (m.on = false) := h3
  have HAr : Hid (∀ u, Calls Try.prog 27 #[.agg #[.int .i64 m.U, .int .u64 m.C, .int .i64 m.H, .int .i64 m.K], .agg #[.int .i64 ao, .int .i64 az], .int .i64 md, .int .u64 (ht : Nat)] u fun e w' => Hid (e = .returned (.bool false) ∧ Below u.heap.size u w')) := fun u => by
    have q := rarea_ok m.U m.C m.H m.K ao az md ht u hH1 hH2 k1 k2 hz9
    rw [h4] at q
    exact q
  clear h1 h2 h3 h4 hH1 hH2 k1 k2 k4 qu qh qc qlt hr
  have F0 : Hid (Bg5 w (((((w.alloc (.cells (mtC m) 36)).alloc (.cells (epA to) 38)).alloc (.cells #[.int .i64 ao, .int .i64 az] 31)).alloc (.cells (tuA cs md bk ht) 40)).alloc (.cells mt0 36)) m to ao az cs md bk ht) := five_new w m to ao az cs md bk ht
  go_enter Try.func8, Try.ntmps8
  go_upto_region 1 with fail
  generalize (((((w.alloc (.cells (mtC m) 36)).alloc (.cells (epA to) 38)).alloc (.cells #[.int .i64 ao, .int .i64 az] 31)).alloc (.cells (tuA cs md bk ht) 40)).alloc (.cells mt0 36)) = w0 at F0 ⊢
  have y4 := F0.out.bx.c 4 (.int .i64 m.U) rfl
  have y5 := F0.out.bx.c 5 (.int .u64 m.C) rfl
  have y6 := F0.out.bx.c 6 (.int .i64 m.H) rfl
  have y7 := F0.out.bx.c 7 (.int .i64 m.K) rfl
  have y12 := F0.out.bx.c 12 (.slice m.ep m.en m.ec) rfl
  have y13 := F0.out.bx.c 13 (.slice m.gp m.gn m.gc) rfl
  have y14 : w0.cell? ⟨w.heap.size, 14, none⟩ = some (.bool false) := (by have q := F0.out.bx.c 14 (.bool m.on) rfl; rw [h3'.out] at q; exact q)
  have t0 := F0.out.te0 0 (.int .u64 to.n) rfl
  have t1 := F0.out.te0 1 (.string to.a) rfl
  have t2 := F0.out.te0 2 (.string to.b) rfl
  have t3 := F0.out.te0 3 (.string to.c) rfl
  have t4 := F0.out.te0 4 (.string to.d) rfl
  have a0 := F0.out.ar0 0 (.int .i64 ao) rfl
  have a1 := F0.out.ar0 1 (.int .i64 az) rfl
  have u0 := F0.out.tu0 0 (.string cs) rfl
  have u1 := F0.out.tu0 1 (.int .i64 md) rfl
  have u2 := F0.out.tu0 2 (.bool bk) rfl
  have u3 := F0.out.tu0 3 (.int .u64 (ht : Nat)) rfl
  go_upto_region 99 with (first | (go_at_call 26; refine (HM.out _).mono ?_; intro e5 w5 hh5; obtain ⟨he5, hb5⟩ := hh5.out; subst he5; have F5 := F0.out.below hb5; have y4 := F5.bx.c 4 (.int .i64 m.U) rfl; have y5 := F5.bx.c 5 (.int .u64 m.C) rfl; have y6 := F5.bx.c 6 (.int .i64 m.H) rfl; have y7 := F5.bx.c 7 (.int .i64 m.K) rfl; have y12 := F5.bx.c 12 (.slice m.ep m.en m.ec) rfl; have y13 := F5.bx.c 13 (.slice m.gp m.gn m.gc) rfl; have y14 : w5.cell? ⟨w.heap.size, 14, none⟩ = some (.bool false) := (by have q := F5.bx.c 14 (.bool m.on) rfl; rw [h3'.out] at q; exact q); have t0 := F5.te0 0 (.int .u64 to.n) rfl; have t1 := F5.te0 1 (.string to.a) rfl; have t2 := F5.te0 2 (.string to.b) rfl; have t3 := F5.te0 3 (.string to.c) rfl; have t4 := F5.te0 4 (.string to.d) rfl; have a0 := F5.ar0 0 (.int .i64 ao) rfl; have a1 := F5.ar0 1 (.int .i64 az) rfl; have u0 := F5.tu0 0 (.string cs) rfl; have u1 := F5.tu0 1 (.int .i64 md) rfl; have u2 := F5.tu0 2 (.bool bk) rfl; have u3 := F5.tu0 3 (.int .u64 (ht : Nat)) rfl) | (go_at_call 27; refine (HAr.out _).mono ?_; intro e6 w6 hh6; obtain ⟨he6, hb6⟩ := hh6.out; subst he6; have F6 := F5.below hb6; have y4 := F6.bx.c 4 (.int .i64 m.U) rfl; have y5 := F6.bx.c 5 (.int .u64 m.C) rfl; have y6 := F6.bx.c 6 (.int .i64 m.H) rfl; have y7 := F6.bx.c 7 (.int .i64 m.K) rfl; have y12 := F6.bx.c 12 (.slice m.ep m.en m.ec) rfl; have y13 := F6.bx.c 13 (.slice m.gp m.gn m.gc) rfl; have y14 : w6.cell? ⟨w.heap.size, 14, none⟩ = some (.bool false) := (by have q := F6.bx.c 14 (.bool m.on) rfl; rw [h3'.out] at q; exact q); have t0 := F6.te0 0 (.int .u64 to.n) rfl; have t1 := F6.te0 1 (.string to.a) rfl; have t2 := F6.te0 2 (.string to.b) rfl; have t3 := F6.te0 3 (.string to.c) rfl; have t4 := F6.te0 4 (.string to.d) rfl; have a0 := F6.ar0 0 (.int .i64 ao) rfl; have a1 := F6.ar0 1 (.int .i64 az) rfl; have u0 := F6.tu0 0 (.string cs) rfl; have u1 := F6.tu0 1 (.int .i64 md) rfl; have u2 := F6.tu0 2 (.bool bk) rfl; have u3 := F6.tu0 3 (.int .u64 (ht : Nat)) rfl) | (refine wpList_store_box (by rfl) (.tmp 8) _ (by rfl) mtZ (w.heap.size + 4) mt0 (by rfl) (by rfl) F6.rs rfl ?_; intro WF bnF stF))
  refine bodyPost_ret (results_cell_two (P := Try.prog) (p := 8) (u := 9) (ty := 36) rfl _ WF (w.heap.size + 4) 36 (mtC mtZ) (0, 0) _ rfl bnF Try.underlying36 rfl (by rw [info36s]; rfl)) rfl ?_
  exact ⟨rfl, F6.bel.trans (stF.below (by omega) (by have := F6.sz; omega))⟩
set_option maxHeartbeats 16000000 in
set_option maxRecDepth 100000 in
theorem rbegin_5 (m : Mt) (hot : Nat) (SL : List Slo) (EL : List Epo) (GL : List (Int × Int × Int)) (T : List Tk) (to : Epo) (ao az : Int) (cs : ByteArray) (md : Int) (bk : Bool) (ht : Nat) (hz9 : az ≤ 9223372036854775807) (w : World) (O : Hid (MtO w m hot SL EL GL T)) (h1 : mayB m.U m.C m.H m.K = true) (h2 : ¬ m.en = 0) (h3 : m.on = false) (h4 : areaB m.U m.H m.K ao az md ht = true) (h6 : ¬ to.a.toList = cs.toList) : Calls Try.prog 8 #[.agg (mtC m), .agg (epA to), .agg #[.int .i64 ao, .int .i64 az], .agg (tuA cs md bk ht)] w fun e w' => Hid (e = .returned (.tuple #[.agg mt0, .int .i64 2]) ∧ Below w.heap.size w w') := by
  have HM : Hid (∀ u, Calls Try.prog 26 #[.agg #[.int .i64 m.U, .int .u64 m.C, .int .i64 m.H, .int .i64 m.K]] u fun e w' => Hid (e = .returned (.bool true) ∧ Below u.heap.size u w')) := fun u => by
    have q := shaped_ok m.U m.C m.H m.K O.out.hC O.out.hC9 u
    rw [h1] at q
    exact q
  obtain ⟨qu, qh, k4, k2, _, qc, qlt⟩ := mayB_all h1
  have hr := headB_range qh
  have hH1 : 0 ≤ m.H := by omega
  have hH2 : m.H ≤ 4194304 := hr.2
  have k1 : 0 ≤ m.K := by omega
  have qe : ((m.en : Int) == 0) = false := by simp; omega
  have h3' : Hid (m.on = false) := h3
  have HAr : Hid (∀ u, Calls Try.prog 27 #[.agg #[.int .i64 m.U, .int .u64 m.C, .int .i64 m.H, .int .i64 m.K], .agg #[.int .i64 ao, .int .i64 az], .int .i64 md, .int .u64 (ht : Nat)] u fun e w' => Hid (e = .returned (.bool true) ∧ Below u.heap.size u w')) := fun u => by
    have q := rarea_ok m.U m.C m.H m.K ao az md ht u hH1 hH2 k1 k2 hz9
    rw [h4] at q
    exact q
  have qs1 : decide (to.a.toList = cs.toList) = false := by simpa using h6
  have qs2 : (to.a.toList == cs.toList) = false := by simpa using h6
  clear h1 h2 h3 h4 hH1 hH2 k1 k2 k4 qu qh qc qlt hr
  have F0 : Hid (Bg5 w (((((w.alloc (.cells (mtC m) 36)).alloc (.cells (epA to) 38)).alloc (.cells #[.int .i64 ao, .int .i64 az] 31)).alloc (.cells (tuA cs md bk ht) 40)).alloc (.cells mt0 36)) m to ao az cs md bk ht) := five_new w m to ao az cs md bk ht
  go_enter Try.func8, Try.ntmps8
  go_upto_region 1 with fail
  generalize (((((w.alloc (.cells (mtC m) 36)).alloc (.cells (epA to) 38)).alloc (.cells #[.int .i64 ao, .int .i64 az] 31)).alloc (.cells (tuA cs md bk ht) 40)).alloc (.cells mt0 36)) = w0 at F0 ⊢
  have y4 := F0.out.bx.c 4 (.int .i64 m.U) rfl
  have y5 := F0.out.bx.c 5 (.int .u64 m.C) rfl
  have y6 := F0.out.bx.c 6 (.int .i64 m.H) rfl
  have y7 := F0.out.bx.c 7 (.int .i64 m.K) rfl
  have y12 := F0.out.bx.c 12 (.slice m.ep m.en m.ec) rfl
  have y13 := F0.out.bx.c 13 (.slice m.gp m.gn m.gc) rfl
  have y14 : w0.cell? ⟨w.heap.size, 14, none⟩ = some (.bool false) := (by have q := F0.out.bx.c 14 (.bool m.on) rfl; rw [h3'.out] at q; exact q)
  have t0 := F0.out.te0 0 (.int .u64 to.n) rfl
  have t1 := F0.out.te0 1 (.string to.a) rfl
  have t2 := F0.out.te0 2 (.string to.b) rfl
  have t3 := F0.out.te0 3 (.string to.c) rfl
  have t4 := F0.out.te0 4 (.string to.d) rfl
  have a0 := F0.out.ar0 0 (.int .i64 ao) rfl
  have a1 := F0.out.ar0 1 (.int .i64 az) rfl
  have u0 := F0.out.tu0 0 (.string cs) rfl
  have u1 := F0.out.tu0 1 (.int .i64 md) rfl
  have u2 := F0.out.tu0 2 (.bool bk) rfl
  have u3 := F0.out.tu0 3 (.int .u64 (ht : Nat)) rfl
  go_upto_region 99 with (first | (go_at_call 26; refine (HM.out _).mono ?_; intro e5 w5 hh5; obtain ⟨he5, hb5⟩ := hh5.out; subst he5; have F5 := F0.out.below hb5; have y4 := F5.bx.c 4 (.int .i64 m.U) rfl; have y5 := F5.bx.c 5 (.int .u64 m.C) rfl; have y6 := F5.bx.c 6 (.int .i64 m.H) rfl; have y7 := F5.bx.c 7 (.int .i64 m.K) rfl; have y12 := F5.bx.c 12 (.slice m.ep m.en m.ec) rfl; have y13 := F5.bx.c 13 (.slice m.gp m.gn m.gc) rfl; have y14 : w5.cell? ⟨w.heap.size, 14, none⟩ = some (.bool false) := (by have q := F5.bx.c 14 (.bool m.on) rfl; rw [h3'.out] at q; exact q); have t0 := F5.te0 0 (.int .u64 to.n) rfl; have t1 := F5.te0 1 (.string to.a) rfl; have t2 := F5.te0 2 (.string to.b) rfl; have t3 := F5.te0 3 (.string to.c) rfl; have t4 := F5.te0 4 (.string to.d) rfl; have a0 := F5.ar0 0 (.int .i64 ao) rfl; have a1 := F5.ar0 1 (.int .i64 az) rfl; have u0 := F5.tu0 0 (.string cs) rfl; have u1 := F5.tu0 1 (.int .i64 md) rfl; have u2 := F5.tu0 2 (.bool bk) rfl; have u3 := F5.tu0 3 (.int .u64 (ht : Nat)) rfl) | (go_at_call 27; refine (HAr.out _).mono ?_; intro e6 w6 hh6; obtain ⟨he6, hb6⟩ := hh6.out; subst he6; have F6 := F5.below hb6; have y4 := F6.bx.c 4 (.int .i64 m.U) rfl; have y5 := F6.bx.c 5 (.int .u64 m.C) rfl; have y6 := F6.bx.c 6 (.int .i64 m.H) rfl; have y7 := F6.bx.c 7 (.int .i64 m.K) rfl; have y12 := F6.bx.c 12 (.slice m.ep m.en m.ec) rfl; have y13 := F6.bx.c 13 (.slice m.gp m.gn m.gc) rfl; have y14 : w6.cell? ⟨w.heap.size, 14, none⟩ = some (.bool false) := (by have q := F6.bx.c 14 (.bool m.on) rfl; rw [h3'.out] at q; exact q); have t0 := F6.te0 0 (.int .u64 to.n) rfl; have t1 := F6.te0 1 (.string to.a) rfl; have t2 := F6.te0 2 (.string to.b) rfl; have t3 := F6.te0 3 (.string to.c) rfl; have t4 := F6.te0 4 (.string to.d) rfl; have a0 := F6.ar0 0 (.int .i64 ao) rfl; have a1 := F6.ar0 1 (.int .i64 az) rfl; have u0 := F6.tu0 0 (.string cs) rfl; have u1 := F6.tu0 1 (.int .i64 md) rfl; have u2 := F6.tu0 2 (.bool bk) rfl; have u3 := F6.tu0 3 (.int .u64 (ht : Nat)) rfl) | (refine wpList_store_box (by rfl) (.tmp 8) _ (by rfl) mtZ (w.heap.size + 4) mt0 (by rfl) (by rfl) F6.rs rfl ?_; intro WF bnF stF))
  refine bodyPost_ret (results_cell_two (P := Try.prog) (p := 8) (u := 9) (ty := 36) rfl _ WF (w.heap.size + 4) 36 (mtC mtZ) (0, 0) _ rfl bnF Try.underlying36 rfl (by rw [info36s]; rfl)) rfl ?_
  exact ⟨rfl, F6.bel.trans (stF.below (by omega) (by have := F6.sz; omega))⟩
set_option maxHeartbeats 16000000 in
set_option maxRecDepth 100000 in
theorem rbegin_6 (m : Mt) (hot : Nat) (SL : List Slo) (EL : List Epo) (GL : List (Int × Int × Int)) (T : List Tk) (to : Epo) (ao az : Int) (cs : ByteArray) (md : Int) (bk : Bool) (ht : Nat) (hz9 : az ≤ 9223372036854775807) (w : World) (O : Hid (MtO w m hot SL EL GL T)) (h1 : mayB m.U m.C m.H m.K = true) (h2 : ¬ m.en = 0) (h3 : m.on = false) (h4 : areaB m.U m.H m.K ao az md ht = true) (h6 : to.a.toList = cs.toList) (hg : ¬ m.gn = 1) : Calls Try.prog 8 #[.agg (mtC m), .agg (epA to), .agg #[.int .i64 ao, .int .i64 az], .agg (tuA cs md bk ht)] w fun e w' => Hid (e = .returned (.tuple #[.agg mt0, .int .i64 2]) ∧ Below w.heap.size w w') := by
  have HM : Hid (∀ u, Calls Try.prog 26 #[.agg #[.int .i64 m.U, .int .u64 m.C, .int .i64 m.H, .int .i64 m.K]] u fun e w' => Hid (e = .returned (.bool true) ∧ Below u.heap.size u w')) := fun u => by
    have q := shaped_ok m.U m.C m.H m.K O.out.hC O.out.hC9 u
    rw [h1] at q
    exact q
  obtain ⟨qu, qh, k4, k2, _, qc, qlt⟩ := mayB_all h1
  have hr := headB_range qh
  have hH1 : 0 ≤ m.H := by omega
  have hH2 : m.H ≤ 4194304 := hr.2
  have k1 : 0 ≤ m.K := by omega
  have qe : ((m.en : Int) == 0) = false := by simp; omega
  have h3' : Hid (m.on = false) := h3
  have HAr : Hid (∀ u, Calls Try.prog 27 #[.agg #[.int .i64 m.U, .int .u64 m.C, .int .i64 m.H, .int .i64 m.K], .agg #[.int .i64 ao, .int .i64 az], .int .i64 md, .int .u64 (ht : Nat)] u fun e w' => Hid (e = .returned (.bool true) ∧ Below u.heap.size u w')) := fun u => by
    have q := rarea_ok m.U m.C m.H m.K ao az md ht u hH1 hH2 k1 k2 hz9
    rw [h4] at q
    exact q
  have qg : ((m.gn : Int) == 1) = false := by simp; omega
  have qg2 : ((m.gn : Int) != 1) = true := by simp; omega
  clear h1 h2 h3 h4 hH1 hH2 k1 k2 k4 qu qh qc qlt hr hg
  have F0 : Hid (Bg5 w (((((w.alloc (.cells (mtC m) 36)).alloc (.cells (epA to) 38)).alloc (.cells #[.int .i64 ao, .int .i64 az] 31)).alloc (.cells (tuA cs md bk ht) 40)).alloc (.cells mt0 36)) m to ao az cs md bk ht) := five_new w m to ao az cs md bk ht
  go_enter Try.func8, Try.ntmps8
  go_upto_region 1 with fail
  generalize (((((w.alloc (.cells (mtC m) 36)).alloc (.cells (epA to) 38)).alloc (.cells #[.int .i64 ao, .int .i64 az] 31)).alloc (.cells (tuA cs md bk ht) 40)).alloc (.cells mt0 36)) = w0 at F0 ⊢
  have y4 := F0.out.bx.c 4 (.int .i64 m.U) rfl
  have y5 := F0.out.bx.c 5 (.int .u64 m.C) rfl
  have y6 := F0.out.bx.c 6 (.int .i64 m.H) rfl
  have y7 := F0.out.bx.c 7 (.int .i64 m.K) rfl
  have y12 := F0.out.bx.c 12 (.slice m.ep m.en m.ec) rfl
  have y13 := F0.out.bx.c 13 (.slice m.gp m.gn m.gc) rfl
  have y14 : w0.cell? ⟨w.heap.size, 14, none⟩ = some (.bool false) := (by have q := F0.out.bx.c 14 (.bool m.on) rfl; rw [h3'.out] at q; exact q)
  have t0 := F0.out.te0 0 (.int .u64 to.n) rfl
  have t1 := F0.out.te0 1 (.string to.a) rfl
  have t2 := F0.out.te0 2 (.string to.b) rfl
  have t3 := F0.out.te0 3 (.string to.c) rfl
  have t4 := F0.out.te0 4 (.string to.d) rfl
  have a0 := F0.out.ar0 0 (.int .i64 ao) rfl
  have a1 := F0.out.ar0 1 (.int .i64 az) rfl
  have u0 := F0.out.tu0 0 (.string cs) rfl
  have u1 := F0.out.tu0 1 (.int .i64 md) rfl
  have u2 := F0.out.tu0 2 (.bool bk) rfl
  have u3 := F0.out.tu0 3 (.int .u64 (ht : Nat)) rfl
  go_upto_region 99 with (first | (go_at_call 26; refine (HM.out _).mono ?_; intro e5 w5 hh5; obtain ⟨he5, hb5⟩ := hh5.out; subst he5; have F5 := F0.out.below hb5; have y4 := F5.bx.c 4 (.int .i64 m.U) rfl; have y5 := F5.bx.c 5 (.int .u64 m.C) rfl; have y6 := F5.bx.c 6 (.int .i64 m.H) rfl; have y7 := F5.bx.c 7 (.int .i64 m.K) rfl; have y12 := F5.bx.c 12 (.slice m.ep m.en m.ec) rfl; have y13 := F5.bx.c 13 (.slice m.gp m.gn m.gc) rfl; have y14 : w5.cell? ⟨w.heap.size, 14, none⟩ = some (.bool false) := (by have q := F5.bx.c 14 (.bool m.on) rfl; rw [h3'.out] at q; exact q); have t0 := F5.te0 0 (.int .u64 to.n) rfl; have t1 := F5.te0 1 (.string to.a) rfl; have t2 := F5.te0 2 (.string to.b) rfl; have t3 := F5.te0 3 (.string to.c) rfl; have t4 := F5.te0 4 (.string to.d) rfl; have a0 := F5.ar0 0 (.int .i64 ao) rfl; have a1 := F5.ar0 1 (.int .i64 az) rfl; have u0 := F5.tu0 0 (.string cs) rfl; have u1 := F5.tu0 1 (.int .i64 md) rfl; have u2 := F5.tu0 2 (.bool bk) rfl; have u3 := F5.tu0 3 (.int .u64 (ht : Nat)) rfl) | (go_at_call 27; refine (HAr.out _).mono ?_; intro e6 w6 hh6; obtain ⟨he6, hb6⟩ := hh6.out; subst he6; have F6 := F5.below hb6; have y4 := F6.bx.c 4 (.int .i64 m.U) rfl; have y5 := F6.bx.c 5 (.int .u64 m.C) rfl; have y6 := F6.bx.c 6 (.int .i64 m.H) rfl; have y7 := F6.bx.c 7 (.int .i64 m.K) rfl; have y12 := F6.bx.c 12 (.slice m.ep m.en m.ec) rfl; have y13 := F6.bx.c 13 (.slice m.gp m.gn m.gc) rfl; have y14 : w6.cell? ⟨w.heap.size, 14, none⟩ = some (.bool false) := (by have q := F6.bx.c 14 (.bool m.on) rfl; rw [h3'.out] at q; exact q); have t0 := F6.te0 0 (.int .u64 to.n) rfl; have t1 := F6.te0 1 (.string to.a) rfl; have t2 := F6.te0 2 (.string to.b) rfl; have t3 := F6.te0 3 (.string to.c) rfl; have t4 := F6.te0 4 (.string to.d) rfl; have a0 := F6.ar0 0 (.int .i64 ao) rfl; have a1 := F6.ar0 1 (.int .i64 az) rfl; have u0 := F6.tu0 0 (.string cs) rfl; have u1 := F6.tu0 1 (.int .i64 md) rfl; have u2 := F6.tu0 2 (.bool bk) rfl; have u3 := F6.tu0 3 (.int .u64 (ht : Nat)) rfl) | (refine wpList_store_box (by rfl) (.tmp 8) _ (by rfl) mtZ (w.heap.size + 4) mt0 (by rfl) (by rfl) F6.rs rfl ?_; intro WF bnF stF))
  refine bodyPost_ret (results_cell_two (P := Try.prog) (p := 8) (u := 9) (ty := 36) rfl _ WF (w.heap.size + 4) 36 (mtC mtZ) (0, 0) _ rfl bnF Try.underlying36 rfl (by rw [info36s]; rfl)) rfl ?_
  exact ⟨rfl, F6.bel.trans (stF.below (by omega) (by have := F6.sz; omega))⟩
set_option maxHeartbeats 16000000 in
set_option maxRecDepth 100000 in
theorem rbegin_7 (m : Mt) (hot : Nat) (SL : List Slo) (EL : List Epo) (GL : List (Int × Int × Int)) (T : List Tk) (to : Epo) (ao az : Int) (cs : ByteArray) (md : Int) (bk : Bool) (ht : Nat) (hz9 : az ≤ 9223372036854775807) (w : World) (O : Hid (MtO w m hot SL EL GL T)) (h1 : mayB m.U m.C m.H m.K = true) (h2 : ¬ m.en = 0) (h3 : m.on = false) (h4 : areaB m.U m.H m.K ao az md ht = true) (h6 : to.a.toList = cs.toList) (hg : m.gn = 1) (h5 : hasB EL to.n m.en) : Calls Try.prog 8 #[.agg (mtC m), .agg (epA to), .agg #[.int .i64 ao, .int .i64 az], .agg (tuA cs md bk ht)] w fun e w' => Hid (e = .returned (.tuple #[.agg mt0, .int .i64 2]) ∧ Below w.heap.size w w') := by
  have HM : Hid (∀ u, Calls Try.prog 26 #[.agg #[.int .i64 m.U, .int .u64 m.C, .int .i64 m.H, .int .i64 m.K]] u fun e w' => Hid (e = .returned (.bool true) ∧ Below u.heap.size u w')) := fun u => by
    have q := shaped_ok m.U m.C m.H m.K O.out.hC O.out.hC9 u
    rw [h1] at q
    exact q
  obtain ⟨qu, qh, k4, k2, _, qc, qlt⟩ := mayB_all h1
  have hr := headB_range qh
  have hH1 : 0 ≤ m.H := by omega
  have hH2 : m.H ≤ 4194304 := hr.2
  have k1 : 0 ≤ m.K := by omega
  have qe : ((m.en : Int) == 0) = false := by simp; omega
  have h3' : Hid (m.on = false) := h3
  have HAr : Hid (∀ u, Calls Try.prog 27 #[.agg #[.int .i64 m.U, .int .u64 m.C, .int .i64 m.H, .int .i64 m.K], .agg #[.int .i64 ao, .int .i64 az], .int .i64 md, .int .u64 (ht : Nat)] u fun e w' => Hid (e = .returned (.bool true) ∧ Below u.heap.size u w')) := fun u => by
    have q := rarea_ok m.U m.C m.H m.K ao az md ht u hH1 hH2 k1 k2 hz9
    rw [h4] at q
    exact q
  have qg : ((m.gn : Int) == 1) = true := by simp; omega
  have qg2 : ((m.gn : Int) != 1) = false := by simp; omega
  have H5 : Hid (hasB EL to.n m.en) := h5
  clear h5 h1 h2 h3 h4 hH1 hH2 k1 k2 k4 qu qh qc qlt hr hg
  have F0 : Hid (Bg5 w (((((w.alloc (.cells (mtC m) 36)).alloc (.cells (epA to) 38)).alloc (.cells #[.int .i64 ao, .int .i64 az] 31)).alloc (.cells (tuA cs md bk ht) 40)).alloc (.cells mt0 36)) m to ao az cs md bk ht) := five_new w m to ao az cs md bk ht
  go_enter Try.func8, Try.ntmps8
  go_upto_region 1 with fail
  generalize (((((w.alloc (.cells (mtC m) 36)).alloc (.cells (epA to) 38)).alloc (.cells #[.int .i64 ao, .int .i64 az] 31)).alloc (.cells (tuA cs md bk ht) 40)).alloc (.cells mt0 36)) = w0 at F0 ⊢
  have y4 := F0.out.bx.c 4 (.int .i64 m.U) rfl
  have y5 := F0.out.bx.c 5 (.int .u64 m.C) rfl
  have y6 := F0.out.bx.c 6 (.int .i64 m.H) rfl
  have y7 := F0.out.bx.c 7 (.int .i64 m.K) rfl
  have y12 := F0.out.bx.c 12 (.slice m.ep m.en m.ec) rfl
  have y13 := F0.out.bx.c 13 (.slice m.gp m.gn m.gc) rfl
  have y14 : w0.cell? ⟨w.heap.size, 14, none⟩ = some (.bool false) := (by have q := F0.out.bx.c 14 (.bool m.on) rfl; rw [h3'.out] at q; exact q)
  have t0 := F0.out.te0 0 (.int .u64 to.n) rfl
  have t1 := F0.out.te0 1 (.string to.a) rfl
  have t2 := F0.out.te0 2 (.string to.b) rfl
  have t3 := F0.out.te0 3 (.string to.c) rfl
  have t4 := F0.out.te0 4 (.string to.d) rfl
  have a0 := F0.out.ar0 0 (.int .i64 ao) rfl
  have a1 := F0.out.ar0 1 (.int .i64 az) rfl
  have u0 := F0.out.tu0 0 (.string cs) rfl
  have u1 := F0.out.tu0 1 (.int .i64 md) rfl
  have u2 := F0.out.tu0 2 (.bool bk) rfl
  have u3 := F0.out.tu0 3 (.int .u64 (ht : Nat)) rfl
  go_upto_region 8 with (first | (go_at_call 26; refine (HM.out _).mono ?_; intro e5 w5 hh5; obtain ⟨he5, hb5⟩ := hh5.out; subst he5; have F5 := F0.out.below hb5; have y4 := F5.bx.c 4 (.int .i64 m.U) rfl; have y5 := F5.bx.c 5 (.int .u64 m.C) rfl; have y6 := F5.bx.c 6 (.int .i64 m.H) rfl; have y7 := F5.bx.c 7 (.int .i64 m.K) rfl; have y12 := F5.bx.c 12 (.slice m.ep m.en m.ec) rfl; have y13 := F5.bx.c 13 (.slice m.gp m.gn m.gc) rfl; have y14 : w5.cell? ⟨w.heap.size, 14, none⟩ = some (.bool false) := (by have q := F5.bx.c 14 (.bool m.on) rfl; rw [h3'.out] at q; exact q); have t0 := F5.te0 0 (.int .u64 to.n) rfl; have t1 := F5.te0 1 (.string to.a) rfl; have t2 := F5.te0 2 (.string to.b) rfl; have t3 := F5.te0 3 (.string to.c) rfl; have t4 := F5.te0 4 (.string to.d) rfl; have a0 := F5.ar0 0 (.int .i64 ao) rfl; have a1 := F5.ar0 1 (.int .i64 az) rfl; have u0 := F5.tu0 0 (.string cs) rfl; have u1 := F5.tu0 1 (.int .i64 md) rfl; have u2 := F5.tu0 2 (.bool bk) rfl; have u3 := F5.tu0 3 (.int .u64 (ht : Nat)) rfl) | (go_at_call 27; refine (HAr.out _).mono ?_; intro e6 w6 hh6; obtain ⟨he6, hb6⟩ := hh6.out; subst he6; have F6 := F5.below hb6; have y4 := F6.bx.c 4 (.int .i64 m.U) rfl; have y5 := F6.bx.c 5 (.int .u64 m.C) rfl; have y6 := F6.bx.c 6 (.int .i64 m.H) rfl; have y7 := F6.bx.c 7 (.int .i64 m.K) rfl; have y12 := F6.bx.c 12 (.slice m.ep m.en m.ec) rfl; have y13 := F6.bx.c 13 (.slice m.gp m.gn m.gc) rfl; have y14 : w6.cell? ⟨w.heap.size, 14, none⟩ = some (.bool false) := (by have q := F6.bx.c 14 (.bool m.on) rfl; rw [h3'.out] at q; exact q); have t0 := F6.te0 0 (.int .u64 to.n) rfl; have t1 := F6.te0 1 (.string to.a) rfl; have t2 := F6.te0 2 (.string to.b) rfl; have t3 := F6.te0 3 (.string to.c) rfl; have t4 := F6.te0 4 (.string to.d) rfl; have a0 := F6.ar0 0 (.int .i64 ao) rfl; have a1 := F6.ar0 1 (.int .i64 az) rfl; have u0 := F6.tu0 0 (.string cs) rfl; have u1 := F6.tu0 1 (.int .i64 md) rfl; have u2 := F6.tu0 2 (.bool bk) rfl; have u3 := F6.tu0 3 (.int .u64 (ht : Nat)) rfl))
  have FH : Hid (Bg5 w w6 m to ao az cs md bk ht) := F6
  clear F0 F5 F6 hb5 hb6 hh5 hh6 HM HAr qe h3' h6 qg qg2
  clear y4 y5 y6 y7 y12 y13 y14 t0 t1 t2 t3 t4 a0 a1 u0 u1 u2 u3
  clear y4 y5 y6 y7 y12 y13 y14 t0 t1 t2 t3 t4 a0 a1 u0 u1 u2 u3
  clear y4 y5 y6 y7 y12 y13 y14 t0 t1 t2 t3 t4 a0 a1 u0 u1 u2 u3
  have hnb : m.en ≤ 1000000000000000 := by have := O.out.y2; omega
  go_loopw [10] (fun i wr => ∃ k : Nat, k ≤ m.en ∧ i = .int .i64 k ∧ Hid (¬ hasB EL to.n k ∧ Bg5 w wr m to ao az cs md bk ht)) (fun i _ => m.en - (intOf i).toNat)
  case atStart => exact ⟨0, Nat.zero_le _, rfl, fun ⟨i, x, h, _⟩ => by omega, FH.out⟩
  case round =>
    obtain ⟨k, hk, rfl, HR⟩ := hrel
    clear FH
    have y12 := HR.out.2.bx.c 12 (.slice m.ep m.en m.ec) rfl
    by_cases hlt : k < m.en
    · obtain ⟨x, hx⟩ : ∃ x, EL[k]? = some x := ⟨EL[k]'(by have := O.out.hen; omega), List.getElem?_eq_getElem _⟩
      obtain ⟨ba, oa, hpa, hba, ca⟩ := (O.out.e1.below HR.out.2.bel).get hx
      rw [hpa] at y12
      have a0 : wr.cell? ⟨ba, oa + k * 5, none⟩ = some (.int .u64 x.n) := by have := ca 0 _ rfl; simpa using this
      have t0 := HR.out.2.te0 0 (.int .u64 to.n) rfl
      by_cases hq : to.n ≤ x.n
      · have HN5 : Hid (hasB EL to.n m.en) := ⟨k, x, hlt, hx, hq⟩
        have d0 : decide (to.n ≤ x.n) = true := by simpa using hq
        clear hx ca hq hpa
        go_wp2
        go_quiet (fail)
        have FQ : Bg5 w (wr.drewN nq) m to ao az cs md bk ht := HR.out.2.below (below_drewN _ _)
        go_upto_region 99 with (refine wpList_store_box (by rfl) (.tmp 8) _ (by rfl) mtZ (w.heap.size + 4) mt0 (by rfl) (by rfl) FQ.rs rfl ?_; intro WF bnF stF)
        refine bodyPost_ret (results_cell_two (P := Try.prog) (p := 8) (u := 9) (ty := 36) rfl _ WF (w.heap.size + 4) 36 (mtC mtZ) (0, 0) _ rfl bnF Try.underlying36 rfl (by rw [info36s]; rfl)) rfl ?_
        exact ⟨rfl, FQ.bel.trans (stF.below (by omega) (by have := FQ.sz; omega))⟩
      · have HN6 : Hid (¬ hasB EL to.n (k + 1)) := fun ⟨i, y, hi, hy, hty⟩ => by
          by_cases c : i = k
          · subst c
            rw [hx] at hy
            cases hy
            exact hq hty
          · exact HR.out.1 ⟨i, y, by omega, hy, hty⟩
        have d0 : decide (to.n ≤ x.n) = false := by simpa using hq
        clear hx ca hq hpa
        go_wp2
        go_quiet (fail)
        go_wp2
        go_roundw
        case rel => exact ⟨k + 1, by omega, by go_num, HN6.out, HR.out.2.below (below_drewN _ _)⟩
        case measure => simp [intOf]; omega
    · have hkm : k = m.en := by omega
      exact absurd H5.out (by rw [← hkm]; exact HR.out.1)
set_option maxHeartbeats 16000000 in
set_option maxRecDepth 100000 in
theorem rbegin_8 (m : Mt) (hot : Nat) (SL : List Slo) (EL : List Epo) (GL : List (Int × Int × Int)) (T : List Tk) (to : Epo) (ao az : Int) (cs : ByteArray) (md : Int) (bk : Bool) (ht : Nat) (hz9 : az ≤ 9223372036854775807) (w : World) (O : Hid (MtO w m hot SL EL GL T)) (h1 : mayB m.U m.C m.H m.K = true) (h2 : ¬ m.en = 0) (h3 : m.on = false) (h4 : areaB m.U m.H m.K ao az md ht = true) (h6 : to.a.toList = cs.toList) (hg : m.gn = 1) (h5 : ¬ hasB EL to.n m.en) (hs0 : ¬ (GL.getD 0 (0, 0, 0)).1 = 0) : Calls Try.prog 8 #[.agg (mtC m), .agg (epA to), .agg #[.int .i64 ao, .int .i64 az], .agg (tuA cs md bk ht)] w fun e w' => Hid (e = .returned (.tuple #[.agg mt0, .int .i64 2]) ∧ Below w.heap.size w w') := by
  have HM : Hid (∀ u, Calls Try.prog 26 #[.agg #[.int .i64 m.U, .int .u64 m.C, .int .i64 m.H, .int .i64 m.K]] u fun e w' => Hid (e = .returned (.bool true) ∧ Below u.heap.size u w')) := fun u => by
    have q := shaped_ok m.U m.C m.H m.K O.out.hC O.out.hC9 u
    rw [h1] at q
    exact q
  obtain ⟨qu, qh, k4, k2, _, qc, qlt⟩ := mayB_all h1
  have hr := headB_range qh
  have hH1 : 0 ≤ m.H := by omega
  have hH2 : m.H ≤ 4194304 := hr.2
  have k1 : 0 ≤ m.K := by omega
  have qe : ((m.en : Int) == 0) = false := by simp; omega
  have h3' : Hid (m.on = false) := h3
  have HAr : Hid (∀ u, Calls Try.prog 27 #[.agg #[.int .i64 m.U, .int .u64 m.C, .int .i64 m.H, .int .i64 m.K], .agg #[.int .i64 ao, .int .i64 az], .int .i64 md, .int .u64 (ht : Nat)] u fun e w' => Hid (e = .returned (.bool true) ∧ Below u.heap.size u w')) := fun u => by
    have q := rarea_ok m.U m.C m.H m.K ao az md ht u hH1 hH2 k1 k2 hz9
    rw [h4] at q
    exact q
  have qg : ((m.gn : Int) == 1) = true := by simp; omega
  have qg2 : ((m.gn : Int) != 1) = false := by simp; omega
  obtain ⟨n1, n2, n3⟩ := secs_of h1
  have HSec : Hid (∀ u, Calls Try.prog 28 #[.agg #[.int .i64 m.U, .int .u64 m.C, .int .i64 m.H, .int .i64 m.K]] u fun e w' => Hid (e = .returned (.int .u64 (secs m : Nat)) ∧ Below u.heap.size u w')) := fun u => by
    have q := rsize_ok m.U m.C m.H m.K u qu hH1 hH2 k1 k2 (by omega) qc
    rw [n1] at q
    exact q
  have HN : Hid (1 ≤ secs m ∧ secs m ≤ 4294967296) := ⟨n2, n3⟩
  clear n1 n2 n3
  obtain ⟨s, hs⟩ : ∃ s, Hid (s = GL.getD 0 (0, 0, 0)) := ⟨_, rfl⟩
  obtain ⟨G, Og, hpG, z0, z1, z2⟩ : ∃ G Og, m.gp = some ⟨G, Og, none⟩ ∧ w.cell? ⟨G, Og, none⟩ = some (.int .u64 s.1) ∧ w.cell? ⟨G, Og + 1, none⟩ = some (.int .u64 s.2.1) ∧ w.cell? ⟨G, Og + 2, none⟩ = some (.int .u64 s.2.2) := by
    obtain ⟨x, hx⟩ : ∃ x, GL[0]? = some x := ⟨GL[0]'(by have := O.out.hgn; omega), List.getElem?_eq_getElem _⟩
    obtain ⟨b, off, hp, _, hc⟩ := O.out.g1.get hx
    have e : s = x := by rw [hs.out, List.getD_eq_getElem?_getD, hx]; rfl
    rw [e]
    refine ⟨b, off, hp, ?_, ?_, ?_⟩
    · have q := hc 0 _ rfl; simpa using q
    · have q := hc 1 _ rfl; simpa using q
    · have q := hc 2 _ rfl; simpa using q
  have HG : Hid (m.gp = some ⟨G, Og, none⟩ ∧ m.gn = 1) := ⟨hpG, hg⟩
  have HZ : Hid (w.cell? ⟨G, Og, none⟩ = some (.int .u64 s.1) ∧ w.cell? ⟨G, Og + 1, none⟩ = some (.int .u64 s.2.1) ∧ w.cell? ⟨G, Og + 2, none⟩ = some (.int .u64 s.2.2)) := ⟨z0, z1, z2⟩
  clear hpG z0 z1 z2
  rw [← hs.out] at hs0
  have r0 : (s.1 == 0) = false := by simpa using hs0
  have r0' : (s.1 != 0) = true := by simpa using hs0
  clear hs0
  have H5 : Hid (¬ hasB EL to.n m.en) := h5
  clear h5 h1 h2 h3 h4 hH1 hH2 k1 k2 k4 qu qh qc qlt hr hg
  have F0 : Hid (Bg5 w (((((w.alloc (.cells (mtC m) 36)).alloc (.cells (epA to) 38)).alloc (.cells #[.int .i64 ao, .int .i64 az] 31)).alloc (.cells (tuA cs md bk ht) 40)).alloc (.cells mt0 36)) m to ao az cs md bk ht) := five_new w m to ao az cs md bk ht
  go_enter Try.func8, Try.ntmps8
  go_upto_region 1 with fail
  generalize (((((w.alloc (.cells (mtC m) 36)).alloc (.cells (epA to) 38)).alloc (.cells #[.int .i64 ao, .int .i64 az] 31)).alloc (.cells (tuA cs md bk ht) 40)).alloc (.cells mt0 36)) = w0 at F0 ⊢
  have y4 := F0.out.bx.c 4 (.int .i64 m.U) rfl
  have y5 := F0.out.bx.c 5 (.int .u64 m.C) rfl
  have y6 := F0.out.bx.c 6 (.int .i64 m.H) rfl
  have y7 := F0.out.bx.c 7 (.int .i64 m.K) rfl
  have y12 := F0.out.bx.c 12 (.slice m.ep m.en m.ec) rfl
  have y13 := F0.out.bx.c 13 (.slice m.gp m.gn m.gc) rfl
  have y14 : w0.cell? ⟨w.heap.size, 14, none⟩ = some (.bool false) := (by have q := F0.out.bx.c 14 (.bool m.on) rfl; rw [h3'.out] at q; exact q)
  have t0 := F0.out.te0 0 (.int .u64 to.n) rfl
  have t1 := F0.out.te0 1 (.string to.a) rfl
  have t2 := F0.out.te0 2 (.string to.b) rfl
  have t3 := F0.out.te0 3 (.string to.c) rfl
  have t4 := F0.out.te0 4 (.string to.d) rfl
  have a0 := F0.out.ar0 0 (.int .i64 ao) rfl
  have a1 := F0.out.ar0 1 (.int .i64 az) rfl
  have u0 := F0.out.tu0 0 (.string cs) rfl
  have u1 := F0.out.tu0 1 (.int .i64 md) rfl
  have u2 := F0.out.tu0 2 (.bool bk) rfl
  have u3 := F0.out.tu0 3 (.int .u64 (ht : Nat)) rfl
  go_upto_region 8 with (first | (go_at_call 26; refine (HM.out _).mono ?_; intro e5 w5 hh5; obtain ⟨he5, hb5⟩ := hh5.out; subst he5; have F5 := F0.out.below hb5; have y4 := F5.bx.c 4 (.int .i64 m.U) rfl; have y5 := F5.bx.c 5 (.int .u64 m.C) rfl; have y6 := F5.bx.c 6 (.int .i64 m.H) rfl; have y7 := F5.bx.c 7 (.int .i64 m.K) rfl; have y12 := F5.bx.c 12 (.slice m.ep m.en m.ec) rfl; have y13 := F5.bx.c 13 (.slice m.gp m.gn m.gc) rfl; have y14 : w5.cell? ⟨w.heap.size, 14, none⟩ = some (.bool false) := (by have q := F5.bx.c 14 (.bool m.on) rfl; rw [h3'.out] at q; exact q); have t0 := F5.te0 0 (.int .u64 to.n) rfl; have t1 := F5.te0 1 (.string to.a) rfl; have t2 := F5.te0 2 (.string to.b) rfl; have t3 := F5.te0 3 (.string to.c) rfl; have t4 := F5.te0 4 (.string to.d) rfl; have a0 := F5.ar0 0 (.int .i64 ao) rfl; have a1 := F5.ar0 1 (.int .i64 az) rfl; have u0 := F5.tu0 0 (.string cs) rfl; have u1 := F5.tu0 1 (.int .i64 md) rfl; have u2 := F5.tu0 2 (.bool bk) rfl; have u3 := F5.tu0 3 (.int .u64 (ht : Nat)) rfl) | (go_at_call 27; refine (HAr.out _).mono ?_; intro e6 w6 hh6; obtain ⟨he6, hb6⟩ := hh6.out; subst he6; have F6 := F5.below hb6; have y4 := F6.bx.c 4 (.int .i64 m.U) rfl; have y5 := F6.bx.c 5 (.int .u64 m.C) rfl; have y6 := F6.bx.c 6 (.int .i64 m.H) rfl; have y7 := F6.bx.c 7 (.int .i64 m.K) rfl; have y12 := F6.bx.c 12 (.slice m.ep m.en m.ec) rfl; have y13 := F6.bx.c 13 (.slice m.gp m.gn m.gc) rfl; have y14 : w6.cell? ⟨w.heap.size, 14, none⟩ = some (.bool false) := (by have q := F6.bx.c 14 (.bool m.on) rfl; rw [h3'.out] at q; exact q); have t0 := F6.te0 0 (.int .u64 to.n) rfl; have t1 := F6.te0 1 (.string to.a) rfl; have t2 := F6.te0 2 (.string to.b) rfl; have t3 := F6.te0 3 (.string to.c) rfl; have t4 := F6.te0 4 (.string to.d) rfl; have a0 := F6.ar0 0 (.int .i64 ao) rfl; have a1 := F6.ar0 1 (.int .i64 az) rfl; have u0 := F6.tu0 0 (.string cs) rfl; have u1 := F6.tu0 1 (.int .i64 md) rfl; have u2 := F6.tu0 2 (.bool bk) rfl; have u3 := F6.tu0 3 (.int .u64 (ht : Nat)) rfl))
  have FH : Hid (Bg5 w w6 m to ao az cs md bk ht) := F6
  clear F0 F5 F6 hb5 hb6 hh5 hh6 HM HAr qe h3' h6 qg qg2
  clear y4 y5 y6 y7 y12 y13 y14 t0 t1 t2 t3 t4 a0 a1 u0 u1 u2 u3
  clear y4 y5 y6 y7 y12 y13 y14 t0 t1 t2 t3 t4 a0 a1 u0 u1 u2 u3
  clear y4 y5 y6 y7 y12 y13 y14 t0 t1 t2 t3 t4 a0 a1 u0 u1 u2 u3
  have hnb : m.en ≤ 1000000000000000 := by have := O.out.y2; omega
  go_loopw [10] (fun i wr => ∃ k : Nat, k ≤ m.en ∧ i = .int .i64 k ∧ Hid (¬ hasB EL to.n k ∧ Bg5 w wr m to ao az cs md bk ht)) (fun i _ => m.en - (intOf i).toNat)
  case atStart => exact ⟨0, Nat.zero_le _, rfl, fun ⟨i, x, h, _⟩ => by omega, FH.out⟩
  case round =>
    obtain ⟨k, hk, rfl, HR⟩ := hrel
    clear FH
    have y12 := HR.out.2.bx.c 12 (.slice m.ep m.en m.ec) rfl
    by_cases hlt : k < m.en
    · obtain ⟨x, hx⟩ : ∃ x, EL[k]? = some x := ⟨EL[k]'(by have := O.out.hen; omega), List.getElem?_eq_getElem _⟩
      obtain ⟨ba, oa, hpa, hba, ca⟩ := (O.out.e1.below HR.out.2.bel).get hx
      rw [hpa] at y12
      have a0 : wr.cell? ⟨ba, oa + k * 5, none⟩ = some (.int .u64 x.n) := by have := ca 0 _ rfl; simpa using this
      have t0 := HR.out.2.te0 0 (.int .u64 to.n) rfl
      by_cases hq : to.n ≤ x.n
      · have HN5 : Hid (hasB EL to.n m.en) := ⟨k, x, hlt, hx, hq⟩
        exact absurd HN5.out H5.out
      · have HN6 : Hid (¬ hasB EL to.n (k + 1)) := fun ⟨i, y, hi, hy, hty⟩ => by
          by_cases c : i = k
          · subst c
            rw [hx] at hy
            cases hy
            exact hq hty
          · exact HR.out.1 ⟨i, y, by omega, hy, hty⟩
        have d0 : decide (to.n ≤ x.n) = false := by simpa using hq
        clear hx ca hq hpa
        go_wp2
        go_quiet (fail)
        go_wp2
        go_roundw
        case rel => exact ⟨k + 1, by omega, by go_num, HN6.out, HR.out.2.below (below_drewN _ _)⟩
        case measure => simp [intOf]; omega
    · have hkm : k = m.en := by omega
      have hnd : decide ((k : Int) < (m.en : Int)) = false := by simp; omega
      have FH : Hid (Bg5 w wr m to ao az cs md bk ht) := HR.out.2
      clear HR hkm
      go_upto_region 12 with fail
      have y13 : wr.cell? ⟨w.heap.size, 13, none⟩ = some (.slice (some ⟨G, Og, none⟩) 1 m.gc) := by
        have q := FH.out.bx.c 13 (.slice m.gp m.gn m.gc) rfl
        rw [HG.out.1, HG.out.2] at q
        exact q
      have v0 := cell_below FH.out.bel HZ.out.1
      have v1 := cell_below FH.out.bel HZ.out.2.1
      have v2 := cell_below FH.out.bel HZ.out.2.2
      go_upto_region 13 with fail
      clear y12 y13 v0 v1 v2 hnd
      have b1 : Below wr.heap.size wr (wr.alloc (.cells #[.int .u64 s.1, .int .u64 s.2.1, .int .u64 s.2.2] 65)) := below_alloc1 _ _
      have BS : Hid ((wr.alloc (.cells #[.int .u64 s.1, .int .u64 s.2.1, .int .u64 s.2.2] 65)).heap[wr.heap.size]? = some (.cells #[.int .u64 s.1, .int .u64 s.2.1, .int .u64 s.2.2] 65 (0, 0))) := World.alloc_heap_new wr _
      have F1 : Hid (Bg5 w (wr.alloc (.cells #[.int .u64 s.1, .int .u64 s.2.1, .int .u64 s.2.2] 65)) m to ao az cs md bk ht) := FH.out.below b1
      have HWr : Hid (w.heap.size + 5 ≤ wr.heap.size) := FH.out.sz
      generalize wr.alloc (.cells #[.int .u64 s.1, .int .u64 s.2.1, .int .u64 s.2.2] 65) = W1 at *
      have y4 := F1.out.bx.c 4 (.int .i64 m.U) rfl
      have y5 := F1.out.bx.c 5 (.int .u64 m.C) rfl
      have y6 := F1.out.bx.c 6 (.int .i64 m.H) rfl
      have y7 := F1.out.bx.c 7 (.int .i64 m.K) rfl
      go_upto_region 14 with (go_at_call 28; refine (HSec.out _).mono ?_; intro e7 W2 hh7; obtain ⟨he7, hb7⟩ := hh7.out; subst he7)
      have F2 : Hid (Bg5 w W2 m to ao az cs md bk ht) := F1.out.below hb7
      have BS2 : Hid (W2.heap[wr.heap.size]? = some (.cells #[.int .u64 s.1, .int .u64 s.2.1, .int .u64 s.2.2] 65 (0, 0))) := (hb7.block _ (Array.getElem?_eq_some_iff.1 BS.out).1).trans BS.out
      clear y4 y5 y6 y7 F1 BS hb7 hh7 b1 FH HSec
      have v0 : W2.cell? ⟨wr.heap.size, 0, none⟩ = some (.int .u64 s.1) := by rw [cell_of_row W2 wr.heap.size 0 _ 65 (0, 0) BS2.out]; rfl
      have v1 : W2.cell? ⟨wr.heap.size, 1, none⟩ = some (.int .u64 s.2.1) := by rw [cell_of_row W2 wr.heap.size 1 _ 65 (0, 0) BS2.out]; rfl
      have v2 : W2.cell? ⟨wr.heap.size, 2, none⟩ = some (.int .u64 s.2.2) := by rw [cell_of_row W2 wr.heap.size 2 _ 65 (0, 0) BS2.out]; rfl
      go_upto_region 99 with (refine wpList_store_box (by rfl) (.tmp 8) _ (by rfl) mtZ (w.heap.size + 4) mt0 (by rfl) (by rfl) F2.out.rs rfl ?_; intro WF bnF stF)
      refine bodyPost_ret (results_cell_two (P := Try.prog) (p := 8) (u := 9) (ty := 36) rfl _ WF (w.heap.size + 4) 36 (mtC mtZ) (0, 0) _ rfl bnF Try.underlying36 rfl (by rw [info36s]; rfl)) rfl ?_
      exact ⟨rfl, F2.out.bel.trans (stF.below (by omega) (by have := F2.out.sz; omega))⟩
set_option maxHeartbeats 16000000 in
set_option maxRecDepth 100000 in
theorem rbegin_9 (m : Mt) (hot : Nat) (SL : List Slo) (EL : List Epo) (GL : List (Int × Int × Int)) (T : List Tk) (to : Epo) (ao az : Int) (cs : ByteArray) (md : Int) (bk : Bool) (ht : Nat) (hz9 : az ≤ 9223372036854775807) (w : World) (O : Hid (MtO w m hot SL EL GL T)) (h1 : mayB m.U m.C m.H m.K = true) (h2 : ¬ m.en = 0) (h3 : m.on = false) (h4 : areaB m.U m.H m.K ao az md ht = true) (h6 : to.a.toList = cs.toList) (hg : m.gn = 1) (h5 : ¬ hasB EL to.n m.en) (hs0 : (GL.getD 0 (0, 0, 0)).1 = 0) (hs1 : ¬ (GL.getD 0 (0, 0, 0)).2.1 = (secs m : Int)) : Calls Try.prog 8 #[.agg (mtC m), .agg (epA to), .agg #[.int .i64 ao, .int .i64 az], .agg (tuA cs md bk ht)] w fun e w' => Hid (e = .returned (.tuple #[.agg mt0, .int .i64 2]) ∧ Below w.heap.size w w') := by
  have HM : Hid (∀ u, Calls Try.prog 26 #[.agg #[.int .i64 m.U, .int .u64 m.C, .int .i64 m.H, .int .i64 m.K]] u fun e w' => Hid (e = .returned (.bool true) ∧ Below u.heap.size u w')) := fun u => by
    have q := shaped_ok m.U m.C m.H m.K O.out.hC O.out.hC9 u
    rw [h1] at q
    exact q
  obtain ⟨qu, qh, k4, k2, _, qc, qlt⟩ := mayB_all h1
  have hr := headB_range qh
  have hH1 : 0 ≤ m.H := by omega
  have hH2 : m.H ≤ 4194304 := hr.2
  have k1 : 0 ≤ m.K := by omega
  have qe : ((m.en : Int) == 0) = false := by simp; omega
  have h3' : Hid (m.on = false) := h3
  have HAr : Hid (∀ u, Calls Try.prog 27 #[.agg #[.int .i64 m.U, .int .u64 m.C, .int .i64 m.H, .int .i64 m.K], .agg #[.int .i64 ao, .int .i64 az], .int .i64 md, .int .u64 (ht : Nat)] u fun e w' => Hid (e = .returned (.bool true) ∧ Below u.heap.size u w')) := fun u => by
    have q := rarea_ok m.U m.C m.H m.K ao az md ht u hH1 hH2 k1 k2 hz9
    rw [h4] at q
    exact q
  have qg : ((m.gn : Int) == 1) = true := by simp; omega
  have qg2 : ((m.gn : Int) != 1) = false := by simp; omega
  obtain ⟨n1, n2, n3⟩ := secs_of h1
  have HSec : Hid (∀ u, Calls Try.prog 28 #[.agg #[.int .i64 m.U, .int .u64 m.C, .int .i64 m.H, .int .i64 m.K]] u fun e w' => Hid (e = .returned (.int .u64 (secs m : Nat)) ∧ Below u.heap.size u w')) := fun u => by
    have q := rsize_ok m.U m.C m.H m.K u qu hH1 hH2 k1 k2 (by omega) qc
    rw [n1] at q
    exact q
  have HN : Hid (1 ≤ secs m ∧ secs m ≤ 4294967296) := ⟨n2, n3⟩
  clear n1 n2 n3
  obtain ⟨s, hs⟩ : ∃ s, Hid (s = GL.getD 0 (0, 0, 0)) := ⟨_, rfl⟩
  obtain ⟨G, Og, hpG, z0, z1, z2⟩ : ∃ G Og, m.gp = some ⟨G, Og, none⟩ ∧ w.cell? ⟨G, Og, none⟩ = some (.int .u64 s.1) ∧ w.cell? ⟨G, Og + 1, none⟩ = some (.int .u64 s.2.1) ∧ w.cell? ⟨G, Og + 2, none⟩ = some (.int .u64 s.2.2) := by
    obtain ⟨x, hx⟩ : ∃ x, GL[0]? = some x := ⟨GL[0]'(by have := O.out.hgn; omega), List.getElem?_eq_getElem _⟩
    obtain ⟨b, off, hp, _, hc⟩ := O.out.g1.get hx
    have e : s = x := by rw [hs.out, List.getD_eq_getElem?_getD, hx]; rfl
    rw [e]
    refine ⟨b, off, hp, ?_, ?_, ?_⟩
    · have q := hc 0 _ rfl; simpa using q
    · have q := hc 1 _ rfl; simpa using q
    · have q := hc 2 _ rfl; simpa using q
  have HG : Hid (m.gp = some ⟨G, Og, none⟩ ∧ m.gn = 1) := ⟨hpG, hg⟩
  have HZ : Hid (w.cell? ⟨G, Og, none⟩ = some (.int .u64 s.1) ∧ w.cell? ⟨G, Og + 1, none⟩ = some (.int .u64 s.2.1) ∧ w.cell? ⟨G, Og + 2, none⟩ = some (.int .u64 s.2.2)) := ⟨z0, z1, z2⟩
  clear hpG z0 z1 z2
  rw [← hs.out] at hs0 hs1
  have r0 : (s.1 == 0) = true := by simpa using hs0
  have r0' : (s.1 != 0) = false := by simpa using hs0
  have r1 : (s.2.1 == (secs m : Int)) = false := by simpa using hs1
  have r1' : (s.2.1 != (secs m : Int)) = true := by simpa using hs1
  clear hs0 hs1
  have H5 : Hid (¬ hasB EL to.n m.en) := h5
  clear h5 h1 h2 h3 h4 hH1 hH2 k1 k2 k4 qu qh qc qlt hr hg
  have F0 : Hid (Bg5 w (((((w.alloc (.cells (mtC m) 36)).alloc (.cells (epA to) 38)).alloc (.cells #[.int .i64 ao, .int .i64 az] 31)).alloc (.cells (tuA cs md bk ht) 40)).alloc (.cells mt0 36)) m to ao az cs md bk ht) := five_new w m to ao az cs md bk ht
  go_enter Try.func8, Try.ntmps8
  go_upto_region 1 with fail
  generalize (((((w.alloc (.cells (mtC m) 36)).alloc (.cells (epA to) 38)).alloc (.cells #[.int .i64 ao, .int .i64 az] 31)).alloc (.cells (tuA cs md bk ht) 40)).alloc (.cells mt0 36)) = w0 at F0 ⊢
  have y4 := F0.out.bx.c 4 (.int .i64 m.U) rfl
  have y5 := F0.out.bx.c 5 (.int .u64 m.C) rfl
  have y6 := F0.out.bx.c 6 (.int .i64 m.H) rfl
  have y7 := F0.out.bx.c 7 (.int .i64 m.K) rfl
  have y12 := F0.out.bx.c 12 (.slice m.ep m.en m.ec) rfl
  have y13 := F0.out.bx.c 13 (.slice m.gp m.gn m.gc) rfl
  have y14 : w0.cell? ⟨w.heap.size, 14, none⟩ = some (.bool false) := (by have q := F0.out.bx.c 14 (.bool m.on) rfl; rw [h3'.out] at q; exact q)
  have t0 := F0.out.te0 0 (.int .u64 to.n) rfl
  have t1 := F0.out.te0 1 (.string to.a) rfl
  have t2 := F0.out.te0 2 (.string to.b) rfl
  have t3 := F0.out.te0 3 (.string to.c) rfl
  have t4 := F0.out.te0 4 (.string to.d) rfl
  have a0 := F0.out.ar0 0 (.int .i64 ao) rfl
  have a1 := F0.out.ar0 1 (.int .i64 az) rfl
  have u0 := F0.out.tu0 0 (.string cs) rfl
  have u1 := F0.out.tu0 1 (.int .i64 md) rfl
  have u2 := F0.out.tu0 2 (.bool bk) rfl
  have u3 := F0.out.tu0 3 (.int .u64 (ht : Nat)) rfl
  go_upto_region 8 with (first | (go_at_call 26; refine (HM.out _).mono ?_; intro e5 w5 hh5; obtain ⟨he5, hb5⟩ := hh5.out; subst he5; have F5 := F0.out.below hb5; have y4 := F5.bx.c 4 (.int .i64 m.U) rfl; have y5 := F5.bx.c 5 (.int .u64 m.C) rfl; have y6 := F5.bx.c 6 (.int .i64 m.H) rfl; have y7 := F5.bx.c 7 (.int .i64 m.K) rfl; have y12 := F5.bx.c 12 (.slice m.ep m.en m.ec) rfl; have y13 := F5.bx.c 13 (.slice m.gp m.gn m.gc) rfl; have y14 : w5.cell? ⟨w.heap.size, 14, none⟩ = some (.bool false) := (by have q := F5.bx.c 14 (.bool m.on) rfl; rw [h3'.out] at q; exact q); have t0 := F5.te0 0 (.int .u64 to.n) rfl; have t1 := F5.te0 1 (.string to.a) rfl; have t2 := F5.te0 2 (.string to.b) rfl; have t3 := F5.te0 3 (.string to.c) rfl; have t4 := F5.te0 4 (.string to.d) rfl; have a0 := F5.ar0 0 (.int .i64 ao) rfl; have a1 := F5.ar0 1 (.int .i64 az) rfl; have u0 := F5.tu0 0 (.string cs) rfl; have u1 := F5.tu0 1 (.int .i64 md) rfl; have u2 := F5.tu0 2 (.bool bk) rfl; have u3 := F5.tu0 3 (.int .u64 (ht : Nat)) rfl) | (go_at_call 27; refine (HAr.out _).mono ?_; intro e6 w6 hh6; obtain ⟨he6, hb6⟩ := hh6.out; subst he6; have F6 := F5.below hb6; have y4 := F6.bx.c 4 (.int .i64 m.U) rfl; have y5 := F6.bx.c 5 (.int .u64 m.C) rfl; have y6 := F6.bx.c 6 (.int .i64 m.H) rfl; have y7 := F6.bx.c 7 (.int .i64 m.K) rfl; have y12 := F6.bx.c 12 (.slice m.ep m.en m.ec) rfl; have y13 := F6.bx.c 13 (.slice m.gp m.gn m.gc) rfl; have y14 : w6.cell? ⟨w.heap.size, 14, none⟩ = some (.bool false) := (by have q := F6.bx.c 14 (.bool m.on) rfl; rw [h3'.out] at q; exact q); have t0 := F6.te0 0 (.int .u64 to.n) rfl; have t1 := F6.te0 1 (.string to.a) rfl; have t2 := F6.te0 2 (.string to.b) rfl; have t3 := F6.te0 3 (.string to.c) rfl; have t4 := F6.te0 4 (.string to.d) rfl; have a0 := F6.ar0 0 (.int .i64 ao) rfl; have a1 := F6.ar0 1 (.int .i64 az) rfl; have u0 := F6.tu0 0 (.string cs) rfl; have u1 := F6.tu0 1 (.int .i64 md) rfl; have u2 := F6.tu0 2 (.bool bk) rfl; have u3 := F6.tu0 3 (.int .u64 (ht : Nat)) rfl))
  have FH : Hid (Bg5 w w6 m to ao az cs md bk ht) := F6
  clear F0 F5 F6 hb5 hb6 hh5 hh6 HM HAr qe h3' h6 qg qg2
  clear y4 y5 y6 y7 y12 y13 y14 t0 t1 t2 t3 t4 a0 a1 u0 u1 u2 u3
  clear y4 y5 y6 y7 y12 y13 y14 t0 t1 t2 t3 t4 a0 a1 u0 u1 u2 u3
  clear y4 y5 y6 y7 y12 y13 y14 t0 t1 t2 t3 t4 a0 a1 u0 u1 u2 u3
  have hnb : m.en ≤ 1000000000000000 := by have := O.out.y2; omega
  go_loopw [10] (fun i wr => ∃ k : Nat, k ≤ m.en ∧ i = .int .i64 k ∧ Hid (¬ hasB EL to.n k ∧ Bg5 w wr m to ao az cs md bk ht)) (fun i _ => m.en - (intOf i).toNat)
  case atStart => exact ⟨0, Nat.zero_le _, rfl, fun ⟨i, x, h, _⟩ => by omega, FH.out⟩
  case round =>
    obtain ⟨k, hk, rfl, HR⟩ := hrel
    clear FH
    have y12 := HR.out.2.bx.c 12 (.slice m.ep m.en m.ec) rfl
    by_cases hlt : k < m.en
    · obtain ⟨x, hx⟩ : ∃ x, EL[k]? = some x := ⟨EL[k]'(by have := O.out.hen; omega), List.getElem?_eq_getElem _⟩
      obtain ⟨ba, oa, hpa, hba, ca⟩ := (O.out.e1.below HR.out.2.bel).get hx
      rw [hpa] at y12
      have a0 : wr.cell? ⟨ba, oa + k * 5, none⟩ = some (.int .u64 x.n) := by have := ca 0 _ rfl; simpa using this
      have t0 := HR.out.2.te0 0 (.int .u64 to.n) rfl
      by_cases hq : to.n ≤ x.n
      · have HN5 : Hid (hasB EL to.n m.en) := ⟨k, x, hlt, hx, hq⟩
        exact absurd HN5.out H5.out
      · have HN6 : Hid (¬ hasB EL to.n (k + 1)) := fun ⟨i, y, hi, hy, hty⟩ => by
          by_cases c : i = k
          · subst c
            rw [hx] at hy
            cases hy
            exact hq hty
          · exact HR.out.1 ⟨i, y, by omega, hy, hty⟩
        have d0 : decide (to.n ≤ x.n) = false := by simpa using hq
        clear hx ca hq hpa
        go_wp2
        go_quiet (fail)
        go_wp2
        go_roundw
        case rel => exact ⟨k + 1, by omega, by go_num, HN6.out, HR.out.2.below (below_drewN _ _)⟩
        case measure => simp [intOf]; omega
    · have hkm : k = m.en := by omega
      have hnd : decide ((k : Int) < (m.en : Int)) = false := by simp; omega
      have FH : Hid (Bg5 w wr m to ao az cs md bk ht) := HR.out.2
      clear HR hkm
      go_upto_region 12 with fail
      have y13 : wr.cell? ⟨w.heap.size, 13, none⟩ = some (.slice (some ⟨G, Og, none⟩) 1 m.gc) := by
        have q := FH.out.bx.c 13 (.slice m.gp m.gn m.gc) rfl
        rw [HG.out.1, HG.out.2] at q
        exact q
      have v0 := cell_below FH.out.bel HZ.out.1
      have v1 := cell_below FH.out.bel HZ.out.2.1
      have v2 := cell_below FH.out.bel HZ.out.2.2
      go_upto_region 13 with fail
      clear y12 y13 v0 v1 v2 hnd
      have b1 : Below wr.heap.size wr (wr.alloc (.cells #[.int .u64 s.1, .int .u64 s.2.1, .int .u64 s.2.2] 65)) := below_alloc1 _ _
      have BS : Hid ((wr.alloc (.cells #[.int .u64 s.1, .int .u64 s.2.1, .int .u64 s.2.2] 65)).heap[wr.heap.size]? = some (.cells #[.int .u64 s.1, .int .u64 s.2.1, .int .u64 s.2.2] 65 (0, 0))) := World.alloc_heap_new wr _
      have F1 : Hid (Bg5 w (wr.alloc (.cells #[.int .u64 s.1, .int .u64 s.2.1, .int .u64 s.2.2] 65)) m to ao az cs md bk ht) := FH.out.below b1
      have HWr : Hid (w.heap.size + 5 ≤ wr.heap.size) := FH.out.sz
      generalize wr.alloc (.cells #[.int .u64 s.1, .int .u64 s.2.1, .int .u64 s.2.2] 65) = W1 at *
      have y4 := F1.out.bx.c 4 (.int .i64 m.U) rfl
      have y5 := F1.out.bx.c 5 (.int .u64 m.C) rfl
      have y6 := F1.out.bx.c 6 (.int .i64 m.H) rfl
      have y7 := F1.out.bx.c 7 (.int .i64 m.K) rfl
      go_upto_region 14 with (go_at_call 28; refine (HSec.out _).mono ?_; intro e7 W2 hh7; obtain ⟨he7, hb7⟩ := hh7.out; subst he7)
      have F2 : Hid (Bg5 w W2 m to ao az cs md bk ht) := F1.out.below hb7
      have BS2 : Hid (W2.heap[wr.heap.size]? = some (.cells #[.int .u64 s.1, .int .u64 s.2.1, .int .u64 s.2.2] 65 (0, 0))) := (hb7.block _ (Array.getElem?_eq_some_iff.1 BS.out).1).trans BS.out
      clear y4 y5 y6 y7 F1 BS hb7 hh7 b1 FH HSec
      have v0 : W2.cell? ⟨wr.heap.size, 0, none⟩ = some (.int .u64 s.1) := by rw [cell_of_row W2 wr.heap.size 0 _ 65 (0, 0) BS2.out]; rfl
      have v1 : W2.cell? ⟨wr.heap.size, 1, none⟩ = some (.int .u64 s.2.1) := by rw [cell_of_row W2 wr.heap.size 1 _ 65 (0, 0) BS2.out]; rfl
      have v2 : W2.cell? ⟨wr.heap.size, 2, none⟩ = some (.int .u64 s.2.2) := by rw [cell_of_row W2 wr.heap.size 2 _ 65 (0, 0) BS2.out]; rfl
      go_upto_region 99 with (refine wpList_store_box (by rfl) (.tmp 8) _ (by rfl) mtZ (w.heap.size + 4) mt0 (by rfl) (by rfl) F2.out.rs rfl ?_; intro WF bnF stF)
      refine bodyPost_ret (results_cell_two (P := Try.prog) (p := 8) (u := 9) (ty := 36) rfl _ WF (w.heap.size + 4) 36 (mtC mtZ) (0, 0) _ rfl bnF Try.underlying36 rfl (by rw [info36s]; rfl)) rfl ?_
      exact ⟨rfl, F2.out.bel.trans (stF.below (by omega) (by have := F2.out.sz; omega))⟩
set_option maxHeartbeats 16000000 in
set_option maxRecDepth 100000 in
theorem rbegin_10 (m : Mt) (hot : Nat) (SL : List Slo) (EL : List Epo) (GL : List (Int × Int × Int)) (T : List Tk) (to : Epo) (ao az : Int) (cs : ByteArray) (md : Int) (bk : Bool) (ht : Nat) (hz9 : az ≤ 9223372036854775807) (w : World) (O : Hid (MtO w m hot SL EL GL T)) (h1 : mayB m.U m.C m.H m.K = true) (h2 : ¬ m.en = 0) (h3 : m.on = false) (h4 : areaB m.U m.H m.K ao az md ht = true) (h6 : to.a.toList = cs.toList) (hg : m.gn = 1) (h5 : ¬ hasB EL to.n m.en) (hs0 : (GL.getD 0 (0, 0, 0)).1 = 0) (hs1 : (GL.getD 0 (0, 0, 0)).2.1 = (secs m : Int)) (he : ¬ epN EL (GL.getD 0 (0, 0, 0)).2.2 m.en = 1) : Calls Try.prog 8 #[.agg (mtC m), .agg (epA to), .agg #[.int .i64 ao, .int .i64 az], .agg (tuA cs md bk ht)] w fun e w' => Hid (e = .returned (.tuple #[.agg mt0, .int .i64 2]) ∧ Below w.heap.size w w') := by
  have HM : Hid (∀ u, Calls Try.prog 26 #[.agg #[.int .i64 m.U, .int .u64 m.C, .int .i64 m.H, .int .i64 m.K]] u fun e w' => Hid (e = .returned (.bool true) ∧ Below u.heap.size u w')) := fun u => by
    have q := shaped_ok m.U m.C m.H m.K O.out.hC O.out.hC9 u
    rw [h1] at q
    exact q
  obtain ⟨qu, qh, k4, k2, _, qc, qlt⟩ := mayB_all h1
  have hr := headB_range qh
  have hH1 : 0 ≤ m.H := by omega
  have hH2 : m.H ≤ 4194304 := hr.2
  have k1 : 0 ≤ m.K := by omega
  have qe : ((m.en : Int) == 0) = false := by simp; omega
  have h3' : Hid (m.on = false) := h3
  have HAr : Hid (∀ u, Calls Try.prog 27 #[.agg #[.int .i64 m.U, .int .u64 m.C, .int .i64 m.H, .int .i64 m.K], .agg #[.int .i64 ao, .int .i64 az], .int .i64 md, .int .u64 (ht : Nat)] u fun e w' => Hid (e = .returned (.bool true) ∧ Below u.heap.size u w')) := fun u => by
    have q := rarea_ok m.U m.C m.H m.K ao az md ht u hH1 hH2 k1 k2 hz9
    rw [h4] at q
    exact q
  have qg : ((m.gn : Int) == 1) = true := by simp; omega
  have qg2 : ((m.gn : Int) != 1) = false := by simp; omega
  obtain ⟨n1, n2, n3⟩ := secs_of h1
  have HSec : Hid (∀ u, Calls Try.prog 28 #[.agg #[.int .i64 m.U, .int .u64 m.C, .int .i64 m.H, .int .i64 m.K]] u fun e w' => Hid (e = .returned (.int .u64 (secs m : Nat)) ∧ Below u.heap.size u w')) := fun u => by
    have q := rsize_ok m.U m.C m.H m.K u qu hH1 hH2 k1 k2 (by omega) qc
    rw [n1] at q
    exact q
  have HN : Hid (1 ≤ secs m ∧ secs m ≤ 4294967296) := ⟨n2, n3⟩
  clear n1 n2 n3
  obtain ⟨s, hs⟩ : ∃ s, Hid (s = GL.getD 0 (0, 0, 0)) := ⟨_, rfl⟩
  obtain ⟨G, Og, hpG, z0, z1, z2⟩ : ∃ G Og, m.gp = some ⟨G, Og, none⟩ ∧ w.cell? ⟨G, Og, none⟩ = some (.int .u64 s.1) ∧ w.cell? ⟨G, Og + 1, none⟩ = some (.int .u64 s.2.1) ∧ w.cell? ⟨G, Og + 2, none⟩ = some (.int .u64 s.2.2) := by
    obtain ⟨x, hx⟩ : ∃ x, GL[0]? = some x := ⟨GL[0]'(by have := O.out.hgn; omega), List.getElem?_eq_getElem _⟩
    obtain ⟨b, off, hp, _, hc⟩ := O.out.g1.get hx
    have e : s = x := by rw [hs.out, List.getD_eq_getElem?_getD, hx]; rfl
    rw [e]
    refine ⟨b, off, hp, ?_, ?_, ?_⟩
    · have q := hc 0 _ rfl; simpa using q
    · have q := hc 1 _ rfl; simpa using q
    · have q := hc 2 _ rfl; simpa using q
  have HG : Hid (m.gp = some ⟨G, Og, none⟩ ∧ m.gn = 1) := ⟨hpG, hg⟩
  have HZ : Hid (w.cell? ⟨G, Og, none⟩ = some (.int .u64 s.1) ∧ w.cell? ⟨G, Og + 1, none⟩ = some (.int .u64 s.2.1) ∧ w.cell? ⟨G, Og + 2, none⟩ = some (.int .u64 s.2.2)) := ⟨z0, z1, z2⟩
  clear hpG z0 z1 z2
  rw [← hs.out] at hs0 hs1 he
  have r0 : (s.1 == 0) = true := by simpa using hs0
  have r0' : (s.1 != 0) = false := by simpa using hs0
  have r1 : (s.2.1 == (secs m : Int)) = true := by simpa using hs1
  have r1' : (s.2.1 != (secs m : Int)) = false := by simpa using hs1
  obtain ⟨x1, hx1⟩ : ∃ x1, Hid (x1 = epN EL s.2.2 m.en) := ⟨_, rfl⟩
  have HEp : Hid (∀ u, Below w.heap.size w u → Calls Try.prog 29 #[.agg (mtC m), .int .u64 s.2.2] u fun e w' => Hid (e = .returned (.int .i64 (x1 : Nat)) ∧ Below u.heap.size u w')) := fun u hu => by
    rw [hx1.out]
    exact epochs_ok m EL s.2.2 O.out.hen (by have := O.out.y2; omega) u (O.out.e1.below hu)
  rw [← hx1.out] at he
  have r2 : (((x1 : Nat) : Int) == 1) = false := by simp; omega
  have r2' : (((x1 : Nat) : Int) != 1) = true := by simp; omega
  clear hs0 hs1 he
  have H5 : Hid (¬ hasB EL to.n m.en) := h5
  clear h5 h1 h2 h3 h4 hH1 hH2 k1 k2 k4 qu qh qc qlt hr hg
  have F0 : Hid (Bg5 w (((((w.alloc (.cells (mtC m) 36)).alloc (.cells (epA to) 38)).alloc (.cells #[.int .i64 ao, .int .i64 az] 31)).alloc (.cells (tuA cs md bk ht) 40)).alloc (.cells mt0 36)) m to ao az cs md bk ht) := five_new w m to ao az cs md bk ht
  go_enter Try.func8, Try.ntmps8
  go_upto_region 1 with fail
  generalize (((((w.alloc (.cells (mtC m) 36)).alloc (.cells (epA to) 38)).alloc (.cells #[.int .i64 ao, .int .i64 az] 31)).alloc (.cells (tuA cs md bk ht) 40)).alloc (.cells mt0 36)) = w0 at F0 ⊢
  have y4 := F0.out.bx.c 4 (.int .i64 m.U) rfl
  have y5 := F0.out.bx.c 5 (.int .u64 m.C) rfl
  have y6 := F0.out.bx.c 6 (.int .i64 m.H) rfl
  have y7 := F0.out.bx.c 7 (.int .i64 m.K) rfl
  have y12 := F0.out.bx.c 12 (.slice m.ep m.en m.ec) rfl
  have y13 := F0.out.bx.c 13 (.slice m.gp m.gn m.gc) rfl
  have y14 : w0.cell? ⟨w.heap.size, 14, none⟩ = some (.bool false) := (by have q := F0.out.bx.c 14 (.bool m.on) rfl; rw [h3'.out] at q; exact q)
  have t0 := F0.out.te0 0 (.int .u64 to.n) rfl
  have t1 := F0.out.te0 1 (.string to.a) rfl
  have t2 := F0.out.te0 2 (.string to.b) rfl
  have t3 := F0.out.te0 3 (.string to.c) rfl
  have t4 := F0.out.te0 4 (.string to.d) rfl
  have a0 := F0.out.ar0 0 (.int .i64 ao) rfl
  have a1 := F0.out.ar0 1 (.int .i64 az) rfl
  have u0 := F0.out.tu0 0 (.string cs) rfl
  have u1 := F0.out.tu0 1 (.int .i64 md) rfl
  have u2 := F0.out.tu0 2 (.bool bk) rfl
  have u3 := F0.out.tu0 3 (.int .u64 (ht : Nat)) rfl
  go_upto_region 8 with (first | (go_at_call 26; refine (HM.out _).mono ?_; intro e5 w5 hh5; obtain ⟨he5, hb5⟩ := hh5.out; subst he5; have F5 := F0.out.below hb5; have y4 := F5.bx.c 4 (.int .i64 m.U) rfl; have y5 := F5.bx.c 5 (.int .u64 m.C) rfl; have y6 := F5.bx.c 6 (.int .i64 m.H) rfl; have y7 := F5.bx.c 7 (.int .i64 m.K) rfl; have y12 := F5.bx.c 12 (.slice m.ep m.en m.ec) rfl; have y13 := F5.bx.c 13 (.slice m.gp m.gn m.gc) rfl; have y14 : w5.cell? ⟨w.heap.size, 14, none⟩ = some (.bool false) := (by have q := F5.bx.c 14 (.bool m.on) rfl; rw [h3'.out] at q; exact q); have t0 := F5.te0 0 (.int .u64 to.n) rfl; have t1 := F5.te0 1 (.string to.a) rfl; have t2 := F5.te0 2 (.string to.b) rfl; have t3 := F5.te0 3 (.string to.c) rfl; have t4 := F5.te0 4 (.string to.d) rfl; have a0 := F5.ar0 0 (.int .i64 ao) rfl; have a1 := F5.ar0 1 (.int .i64 az) rfl; have u0 := F5.tu0 0 (.string cs) rfl; have u1 := F5.tu0 1 (.int .i64 md) rfl; have u2 := F5.tu0 2 (.bool bk) rfl; have u3 := F5.tu0 3 (.int .u64 (ht : Nat)) rfl) | (go_at_call 27; refine (HAr.out _).mono ?_; intro e6 w6 hh6; obtain ⟨he6, hb6⟩ := hh6.out; subst he6; have F6 := F5.below hb6; have y4 := F6.bx.c 4 (.int .i64 m.U) rfl; have y5 := F6.bx.c 5 (.int .u64 m.C) rfl; have y6 := F6.bx.c 6 (.int .i64 m.H) rfl; have y7 := F6.bx.c 7 (.int .i64 m.K) rfl; have y12 := F6.bx.c 12 (.slice m.ep m.en m.ec) rfl; have y13 := F6.bx.c 13 (.slice m.gp m.gn m.gc) rfl; have y14 : w6.cell? ⟨w.heap.size, 14, none⟩ = some (.bool false) := (by have q := F6.bx.c 14 (.bool m.on) rfl; rw [h3'.out] at q; exact q); have t0 := F6.te0 0 (.int .u64 to.n) rfl; have t1 := F6.te0 1 (.string to.a) rfl; have t2 := F6.te0 2 (.string to.b) rfl; have t3 := F6.te0 3 (.string to.c) rfl; have t4 := F6.te0 4 (.string to.d) rfl; have a0 := F6.ar0 0 (.int .i64 ao) rfl; have a1 := F6.ar0 1 (.int .i64 az) rfl; have u0 := F6.tu0 0 (.string cs) rfl; have u1 := F6.tu0 1 (.int .i64 md) rfl; have u2 := F6.tu0 2 (.bool bk) rfl; have u3 := F6.tu0 3 (.int .u64 (ht : Nat)) rfl))
  have FH : Hid (Bg5 w w6 m to ao az cs md bk ht) := F6
  clear F0 F5 F6 hb5 hb6 hh5 hh6 HM HAr qe h3' h6 qg qg2
  clear y4 y5 y6 y7 y12 y13 y14 t0 t1 t2 t3 t4 a0 a1 u0 u1 u2 u3
  clear y4 y5 y6 y7 y12 y13 y14 t0 t1 t2 t3 t4 a0 a1 u0 u1 u2 u3
  clear y4 y5 y6 y7 y12 y13 y14 t0 t1 t2 t3 t4 a0 a1 u0 u1 u2 u3
  have hnb : m.en ≤ 1000000000000000 := by have := O.out.y2; omega
  go_loopw [10] (fun i wr => ∃ k : Nat, k ≤ m.en ∧ i = .int .i64 k ∧ Hid (¬ hasB EL to.n k ∧ Bg5 w wr m to ao az cs md bk ht)) (fun i _ => m.en - (intOf i).toNat)
  case atStart => exact ⟨0, Nat.zero_le _, rfl, fun ⟨i, x, h, _⟩ => by omega, FH.out⟩
  case round =>
    obtain ⟨k, hk, rfl, HR⟩ := hrel
    clear FH
    have y12 := HR.out.2.bx.c 12 (.slice m.ep m.en m.ec) rfl
    by_cases hlt : k < m.en
    · obtain ⟨x, hx⟩ : ∃ x, EL[k]? = some x := ⟨EL[k]'(by have := O.out.hen; omega), List.getElem?_eq_getElem _⟩
      obtain ⟨ba, oa, hpa, hba, ca⟩ := (O.out.e1.below HR.out.2.bel).get hx
      rw [hpa] at y12
      have a0 : wr.cell? ⟨ba, oa + k * 5, none⟩ = some (.int .u64 x.n) := by have := ca 0 _ rfl; simpa using this
      have t0 := HR.out.2.te0 0 (.int .u64 to.n) rfl
      by_cases hq : to.n ≤ x.n
      · have HN5 : Hid (hasB EL to.n m.en) := ⟨k, x, hlt, hx, hq⟩
        exact absurd HN5.out H5.out
      · have HN6 : Hid (¬ hasB EL to.n (k + 1)) := fun ⟨i, y, hi, hy, hty⟩ => by
          by_cases c : i = k
          · subst c
            rw [hx] at hy
            cases hy
            exact hq hty
          · exact HR.out.1 ⟨i, y, by omega, hy, hty⟩
        have d0 : decide (to.n ≤ x.n) = false := by simpa using hq
        clear hx ca hq hpa
        go_wp2
        go_quiet (fail)
        go_wp2
        go_roundw
        case rel => exact ⟨k + 1, by omega, by go_num, HN6.out, HR.out.2.below (below_drewN _ _)⟩
        case measure => simp [intOf]; omega
    · have hkm : k = m.en := by omega
      have hnd : decide ((k : Int) < (m.en : Int)) = false := by simp; omega
      have FH : Hid (Bg5 w wr m to ao az cs md bk ht) := HR.out.2
      clear HR hkm
      go_upto_region 12 with fail
      have y13 : wr.cell? ⟨w.heap.size, 13, none⟩ = some (.slice (some ⟨G, Og, none⟩) 1 m.gc) := by
        have q := FH.out.bx.c 13 (.slice m.gp m.gn m.gc) rfl
        rw [HG.out.1, HG.out.2] at q
        exact q
      have v0 := cell_below FH.out.bel HZ.out.1
      have v1 := cell_below FH.out.bel HZ.out.2.1
      have v2 := cell_below FH.out.bel HZ.out.2.2
      go_upto_region 13 with fail
      clear y12 y13 v0 v1 v2 hnd
      have b1 : Below wr.heap.size wr (wr.alloc (.cells #[.int .u64 s.1, .int .u64 s.2.1, .int .u64 s.2.2] 65)) := below_alloc1 _ _
      have BS : Hid ((wr.alloc (.cells #[.int .u64 s.1, .int .u64 s.2.1, .int .u64 s.2.2] 65)).heap[wr.heap.size]? = some (.cells #[.int .u64 s.1, .int .u64 s.2.1, .int .u64 s.2.2] 65 (0, 0))) := World.alloc_heap_new wr _
      have F1 : Hid (Bg5 w (wr.alloc (.cells #[.int .u64 s.1, .int .u64 s.2.1, .int .u64 s.2.2] 65)) m to ao az cs md bk ht) := FH.out.below b1
      have HWr : Hid (w.heap.size + 5 ≤ wr.heap.size) := FH.out.sz
      generalize wr.alloc (.cells #[.int .u64 s.1, .int .u64 s.2.1, .int .u64 s.2.2] 65) = W1 at *
      have y4 := F1.out.bx.c 4 (.int .i64 m.U) rfl
      have y5 := F1.out.bx.c 5 (.int .u64 m.C) rfl
      have y6 := F1.out.bx.c 6 (.int .i64 m.H) rfl
      have y7 := F1.out.bx.c 7 (.int .i64 m.K) rfl
      go_upto_region 14 with (go_at_call 28; refine (HSec.out _).mono ?_; intro e7 W2 hh7; obtain ⟨he7, hb7⟩ := hh7.out; subst he7)
      have F2 : Hid (Bg5 w W2 m to ao az cs md bk ht) := F1.out.below hb7
      have BS2 : Hid (W2.heap[wr.heap.size]? = some (.cells #[.int .u64 s.1, .int .u64 s.2.1, .int .u64 s.2.2] 65 (0, 0))) := (hb7.block _ (Array.getElem?_eq_some_iff.1 BS.out).1).trans BS.out
      clear y4 y5 y6 y7 F1 BS hb7 hh7 b1 FH HSec
      have v0 : W2.cell? ⟨wr.heap.size, 0, none⟩ = some (.int .u64 s.1) := by rw [cell_of_row W2 wr.heap.size 0 _ 65 (0, 0) BS2.out]; rfl
      have v1 : W2.cell? ⟨wr.heap.size, 1, none⟩ = some (.int .u64 s.2.1) := by rw [cell_of_row W2 wr.heap.size 1 _ 65 (0, 0) BS2.out]; rfl
      have v2 : W2.cell? ⟨wr.heap.size, 2, none⟩ = some (.int .u64 s.2.2) := by rw [cell_of_row W2 wr.heap.size 2 _ 65 (0, 0) BS2.out]; rfl
      go_upto_region 99 with (first | (refine wpList_load_want (by rfl) 36 (.tmp 4) (by rfl) w.heap.size 0 (by rfl) (mtC m).toList _ F2.out.bx.range Try.underlying36 rfl (size36 m) ?_) | (go_at_call 29; refine (HEp.out _ F2.out.bel).mono ?_; intro e8 W3 hh8; obtain ⟨he8, hb8⟩ := hh8.out; subst he8; have F3 := F2.out.below hb8) | (refine wpList_store_box (by rfl) (.tmp 8) _ (by rfl) mtZ (w.heap.size + 4) mt0 (by rfl) (by rfl) F3.rs rfl ?_; intro WF bnF stF))
      refine bodyPost_ret (results_cell_two (P := Try.prog) (p := 8) (u := 9) (ty := 36) rfl _ WF (w.heap.size + 4) 36 (mtC mtZ) (0, 0) _ rfl bnF Try.underlying36 rfl (by rw [info36s]; rfl)) rfl ?_
      exact ⟨rfl, F3.bel.trans (stF.below (by omega) (by have := F3.sz; omega))⟩
end Go.Proofs.Ytmfnhdflmnmooaa
