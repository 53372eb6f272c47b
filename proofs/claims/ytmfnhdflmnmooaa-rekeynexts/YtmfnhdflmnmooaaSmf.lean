import Derived.Test.YtmfnhdflmnmooaaSmt
import Derived.Deep.RegionHeld3
namespace Go.Proofs.Ytmfnhdflmnmooaa
open Go.RowKit
set_option linter.unusedVariables false
set_option linter.unusedSimpArgs false
theorem TkE.below {w w' : World} {T T2 : List Tk} (h : TkE w T T2) (hb : Below w.heap.size w w') : TkE w' T T2 := fun i x y hx hy => by
  obtain ⟨q1, q2, q3, zs, v1, v2⟩ := h i x y hx hy
  exact ⟨q1, q2, q3, zs, v1.kept hb.block, v2.kept hb.block⟩
set_option maxHeartbeats 4000000 in
set_option maxRecDepth 100000 in
theorem same10 (m : Mt) (q : Ptr) (SL : List Slo) (EL : List Epo) (f : Nat → Int × Int × Int) (T T2 : List Tk) (hsn : Hid (SL.length = m.sn)) (hen : Hid (EL.length = m.en)) (htn : Hid (T.length = m.tn)) (htn2 : Hid (T2.length = m.tn)) (b1 : m.sn ≤ 1000000000000000) (b2 : m.en ≤ 1000000000000000) (b3 : m.gn ≤ 1000000000000000) (b4 : m.tn ≤ 1000000000000000) (w : World)
    (s1 : Hid (RV sloL 9 w m.sp SL)) (s2 : Hid (RV sloL 9 w q.sp SL)) (e1 : Hid (RV epoL 5 w m.ep EL)) (e2 : Hid (RV epoL 5 w q.ep EL)) (g1 : Hid (SegV w (.slice m.gp m.gn m.gc) m.gn f)) (g2 : Hid (SegV w (.slice q.gp m.gn q.gc) m.gn f)) (t1 : Hid (RV tkL 4 w m.tp T)) (t2 : Hid (RV tkL 4 w q.tp T2)) (tE : Hid (TkE w T T2)) :
    Calls Try.prog 10 #[.agg (mtC m), .agg (mtC (m.at q))] w fun e w' => e = .returned (.bool true) ∧ Below w.heap.size w w' := by
  have st := SmR.start w m (m.at q)
  have bx := st.1
  have bz := st.2.1
  have ST : Hid (SmR w ((w.alloc (.cells (mtC m) 36)).alloc (.cells (mtC (m.at q)) 36)) m (m.at q)) := st
  clear st
  have y0 := bx.c 0 (.string m.lab) rfl
  have y1 := bx.c 1 (.string m.sub) rfl
  have y2 := bx.c 2 (.string m.uid) rfl
  have y3 := bx.c 3 (.string m.hst) rfl
  have y4 := bx.c 4 (.int .i64 m.U) rfl
  have y5 := bx.c 5 (.int .u64 m.C) rfl
  have y6 := bx.c 6 (.int .i64 m.H) rfl
  have y7 := bx.c 7 (.int .i64 m.K) rfl
  have y8 := bx.c 8 (.int .i64 m.tur) rfl
  have y9 := bx.c 9 (.string m.slt) rfl
  have y10 := bx.c 10 (.string m.dig) rfl
  have y11 := bx.c 11 (.slice m.sp m.sn m.sc) rfl
  have y12 := bx.c 12 (.slice m.ep m.en m.ec) rfl
  have y13 := bx.c 13 (.slice m.gp m.gn m.gc) rfl
  have y14 := bx.c 14 (.bool m.on) rfl
  have y15 := bx.c 15 (.int .u64 (m.fr : Nat)) rfl
  have y16 := bx.c 16 (.int .u64 (m.to : Nat)) rfl
  have y17 := bx.c 17 (.bool m.back) rfl
  have y18 := bx.c 18 (.int .i64 m.mode) rfl
  have y19 := bx.c 19 (.int .u64 m.hot) rfl
  have y20 := bx.c 20 (.int .u64 (m.done : Nat)) rfl
  have y21 := bx.c 21 (.int .i64 m.ao) rfl
  have y22 := bx.c 22 (.int .i64 m.az) rfl
  have y23 := bx.c 23 (.bool m.act) rfl
  have y24 := bx.c 24 (.int .u64 m.cnt) rfl
  have y25 := bx.c 25 (.string m.sum) rfl
  have y26 := bx.c 26 (.slice m.tp m.tn m.tc) rfl
  have z0 := bz.c 0 (.string m.lab) rfl
  have z1 := bz.c 1 (.string m.sub) rfl
  have z2 := bz.c 2 (.string m.uid) rfl
  have z3 := bz.c 3 (.string m.hst) rfl
  have z4 := bz.c 4 (.int .i64 m.U) rfl
  have z5 := bz.c 5 (.int .u64 m.C) rfl
  have z6 := bz.c 6 (.int .i64 m.H) rfl
  have z7 := bz.c 7 (.int .i64 m.K) rfl
  have z8 := bz.c 8 (.int .i64 m.tur) rfl
  have z9 := bz.c 9 (.string m.slt) rfl
  have z10 := bz.c 10 (.string m.dig) rfl
  have z11 := bz.c 11 (.slice q.sp m.sn q.sc) rfl
  have z12 := bz.c 12 (.slice q.ep m.en q.ec) rfl
  have z13 := bz.c 13 (.slice q.gp m.gn q.gc) rfl
  have z14 := bz.c 14 (.bool m.on) rfl
  have z15 := bz.c 15 (.int .u64 (m.fr : Nat)) rfl
  have z16 := bz.c 16 (.int .u64 (m.to : Nat)) rfl
  have z17 := bz.c 17 (.bool m.back) rfl
  have z18 := bz.c 18 (.int .i64 m.mode) rfl
  have z19 := bz.c 19 (.int .u64 m.hot) rfl
  have z20 := bz.c 20 (.int .u64 (m.done : Nat)) rfl
  have z21 := bz.c 21 (.int .i64 m.ao) rfl
  have z22 := bz.c 22 (.int .i64 m.az) rfl
  have z23 := bz.c 23 (.bool m.act) rfl
  have z24 := bz.c 24 (.int .u64 m.cnt) rfl
  have z25 := bz.c 25 (.string m.sum) rfl
  have z26 := bz.c 26 (.slice q.tp m.tn q.tc) rfl
  have q24 : ∀ u, (Op.equalIn 10000 24 (.agg #[.int .i64 m.U, .int .u64 m.C, .int .i64 m.H, .int .i64 m.K]) (.agg #[.int .i64 m.U, .int .u64 m.C, .int .i64 m.H, .int .i64 m.K])).run Try.prog u = .ok true u := fun u => eq24 _ _ _ _ u
  have q26 : ∀ u, (Op.equalIn 10000 26 (.agg #[.int .i64 m.tur, .string m.slt, .string m.dig]) (.agg #[.int .i64 m.tur, .string m.slt, .string m.dig])).run Try.prog u = .ok true u := fun u => eq26 _ _ _ u
  have q33 : ∀ u, (Op.equalIn 10000 33 (.agg #[.bool m.on, .int .u64 (m.fr : Nat), .int .u64 (m.to : Nat), .bool m.back, .int .i64 m.mode, .int .u64 m.hot, .int .u64 (m.done : Nat), .int .i64 m.ao, .int .i64 m.az, .bool m.act, .int .u64 m.cnt, .string m.sum]) (.agg #[.bool m.on, .int .u64 (m.fr : Nat), .int .u64 (m.to : Nat), .bool m.back, .int .i64 m.mode, .int .u64 m.hot, .int .u64 (m.done : Nat), .int .i64 m.ao, .int .i64 m.az, .bool m.act, .int .u64 m.cnt, .string m.sum])).run Try.prog u = .ok true u := fun u => eq33 _ _ _ _ _ _ _ _ _ _ _ _ u
  clear bx bz
  go_enter Try.func10, Try.ntmps10
  go_wp2
  have ST1 := ST
  clear y0 z0 y1 z1 y2 z2 y3 z3 y4 z4 y5 z5 y6 z6 y7 z7 y8 z8 y9 z9 y10 z10 y11 z11 y12 z12 y13 z13 y14 z14 y15 z15 y16 z16 y17 z17 y18 z18 y19 z19 y20 z20 y21 z21 y22 z22 y23 z23 y24 z24 y25 z25 y26 z26 q24 q26 q33
  go_loopw [5] (fun i wr => ∃ k : Nat, k ≤ m.sn ∧ i = .int .i64 k ∧ Hid (SmR w wr m (m.at q))) (fun i _ => m.sn - (intOf i).toNat)
  case atStart => exact ⟨0, Nat.zero_le _, rfl, ST1⟩
  case round =>
    obtain ⟨k, hk, rfl, HS⟩ := hrel
    clear ST1 ST
    have y11 := HS.out.1.c 11 (.slice m.sp m.sn m.sc) rfl
    have z11 := HS.out.2.1.c 11 (.slice q.sp m.sn q.sc) rfl
    by_cases hlt : k < m.sn
    · obtain ⟨x, hx⟩ : ∃ x, SL[k]? = some x := ⟨SL[k]'(by have := hsn.out; omega), List.getElem?_eq_getElem _⟩
      obtain ⟨ba, oa, hpa, hba, ca⟩ := (s1.out.below HS.out.2.2.1).get hx
      obtain ⟨bb, ob, hpb, hbb, cb⟩ := (s2.out.below HS.out.2.2.1).get hx
      rw [hpa] at y11
      rw [hpb] at z11
      have a0 : wr.cell? ⟨ba, oa + k * 9, none⟩ = some (.int .i64 x.n) := by have := ca 0 _ rfl; simpa using this
      have a1 : wr.cell? ⟨ba, oa + k * 9 + 1, none⟩ = some (.int .i64 x.p) := by have := ca 1 _ rfl; simpa using this
      have a2 : wr.cell? ⟨ba, oa + k * 9 + 2, none⟩ = some (.int .i64 x.h) := by have := ca 2 _ rfl; simpa using this
      have a3 : wr.cell? ⟨ba, oa + k * 9 + 3, none⟩ = some (.int .i64 x.t) := by have := ca 3 _ rfl; simpa using this
      have a4 : wr.cell? ⟨ba, oa + k * 9 + 4, none⟩ = some (.string x.s) := by have := ca 4 _ rfl; simpa using this
      have a5 : wr.cell? ⟨ba, oa + k * 9 + 5, none⟩ = some (.string x.c) := by have := ca 5 _ rfl; simpa using this
      have a6 : wr.cell? ⟨ba, oa + k * 9 + 6, none⟩ = some (.int .i64 x.st) := by have := ca 6 _ rfl; simpa using this
      have a7 : wr.cell? ⟨ba, oa + k * 9 + 7, none⟩ = some (.int .i64 x.o) := by have := ca 7 _ rfl; simpa using this
      have a8 : wr.cell? ⟨ba, oa + k * 9 + 8, none⟩ = some (.int .i64 x.z) := by have := ca 8 _ rfl; simpa using this
      have c0 : wr.cell? ⟨bb, ob + k * 9, none⟩ = some (.int .i64 x.n) := by have := cb 0 _ rfl; simpa using this
      have c1 : wr.cell? ⟨bb, ob + k * 9 + 1, none⟩ = some (.int .i64 x.p) := by have := cb 1 _ rfl; simpa using this
      have c2 : wr.cell? ⟨bb, ob + k * 9 + 2, none⟩ = some (.int .i64 x.h) := by have := cb 2 _ rfl; simpa using this
      have c3 : wr.cell? ⟨bb, ob + k * 9 + 3, none⟩ = some (.int .i64 x.t) := by have := cb 3 _ rfl; simpa using this
      have c4 : wr.cell? ⟨bb, ob + k * 9 + 4, none⟩ = some (.string x.s) := by have := cb 4 _ rfl; simpa using this
      have c5 : wr.cell? ⟨bb, ob + k * 9 + 5, none⟩ = some (.string x.c) := by have := cb 5 _ rfl; simpa using this
      have c6 : wr.cell? ⟨bb, ob + k * 9 + 6, none⟩ = some (.int .i64 x.st) := by have := cb 6 _ rfl; simpa using this
      have c7 : wr.cell? ⟨bb, ob + k * 9 + 7, none⟩ = some (.int .i64 x.o) := by have := cb 7 _ rfl; simpa using this
      have c8 : wr.cell? ⟨bb, ob + k * 9 + 8, none⟩ = some (.int .i64 x.z) := by have := cb 8 _ rfl; simpa using this
      have HQ : ∀ u, (Op.equalIn 10000 63 (.agg #[.int .i64 x.n, .int .i64 x.p, .int .i64 x.h, .int .i64 x.t, .string x.s, .string x.c, .int .i64 x.st, .int .i64 x.o, .int .i64 x.z]) (.agg #[.int .i64 x.n, .int .i64 x.p, .int .i64 x.h, .int .i64 x.t, .string x.s, .string x.c, .int .i64 x.st, .int .i64 x.o, .int .i64 x.z])).run Try.prog u = .ok true u := fun u => eq47 _ _ _ _ _ _ _ _ _ u
      clear ca cb hpa hpb hx s1 s2 e1 e2 t1 t2 tE
      go_wp2
      go_quiet (fail)
      go_wp2
      go_roundw
      case rel => exact ⟨k + 1, by omega, by go_num, HS.out.step (below_drewN _ _)⟩
      case measure => simp [intOf]; omega
    · go_wp2
      clear s1 s2 y11 z11
      go_loopw [6] (fun i wr => ∃ k : Nat, k ≤ m.en ∧ i = .int .i64 k ∧ Hid (SmR w wr m (m.at q))) (fun i _ => m.en - (intOf i).toNat)
      case atStart => exact ⟨0, Nat.zero_le _, rfl, HS⟩
      case round =>
        clear HS hlt hk
        obtain ⟨k, hk, rfl, HS⟩ := hrel
        have y12 := HS.out.1.c 12 (.slice m.ep m.en m.ec) rfl
        have z12 := HS.out.2.1.c 12 (.slice q.ep m.en q.ec) rfl
        by_cases hlt : k < m.en
        · obtain ⟨x, hx⟩ : ∃ x, EL[k]? = some x := ⟨EL[k]'(by have := hen.out; omega), List.getElem?_eq_getElem _⟩
          obtain ⟨ba, oa, hpa, hba, ca⟩ := (e1.out.below HS.out.2.2.1).get hx
          obtain ⟨bb, ob, hpb, hbb, cb⟩ := (e2.out.below HS.out.2.2.1).get hx
          rw [hpa] at y12
          rw [hpb] at z12
          have a0 : wr.cell? ⟨ba, oa + k * 5, none⟩ = some (.int .u64 x.n) := by have := ca 0 _ rfl; simpa using this
          have a1 : wr.cell? ⟨ba, oa + k * 5 + 1, none⟩ = some (.string x.a) := by have := ca 1 _ rfl; simpa using this
          have a2 : wr.cell? ⟨ba, oa + k * 5 + 2, none⟩ = some (.string x.b) := by have := ca 2 _ rfl; simpa using this
          have a3 : wr.cell? ⟨ba, oa + k * 5 + 3, none⟩ = some (.string x.c) := by have := ca 3 _ rfl; simpa using this
          have a4 : wr.cell? ⟨ba, oa + k * 5 + 4, none⟩ = some (.string x.d) := by have := ca 4 _ rfl; simpa using this
          have c0 : wr.cell? ⟨bb, ob + k * 5, none⟩ = some (.int .u64 x.n) := by have := cb 0 _ rfl; simpa using this
          have c1 : wr.cell? ⟨bb, ob + k * 5 + 1, none⟩ = some (.string x.a) := by have := cb 1 _ rfl; simpa using this
          have c2 : wr.cell? ⟨bb, ob + k * 5 + 2, none⟩ = some (.string x.b) := by have := cb 2 _ rfl; simpa using this
          have c3 : wr.cell? ⟨bb, ob + k * 5 + 3, none⟩ = some (.string x.c) := by have := cb 3 _ rfl; simpa using this
          have c4 : wr.cell? ⟨bb, ob + k * 5 + 4, none⟩ = some (.string x.d) := by have := cb 4 _ rfl; simpa using this
          have HQ : ∀ u, (Op.equalIn 10000 38 (.agg #[.int .u64 x.n, .string x.a, .string x.b, .string x.c, .string x.d]) (.agg #[.int .u64 x.n, .string x.a, .string x.b, .string x.c, .string x.d])).run Try.prog u = .ok true u := fun u => eq49 _ _ _ _ _ u
          clear ca cb hpa hpb hx e1 e2 t1 t2 tE
          go_wp2
          go_quiet (fail)
          go_wp2
          go_roundw
          case rel => exact ⟨k + 1, by omega, by go_num, HS.out.step (below_drewN _ _)⟩
          case measure => simp [intOf]; omega
        · have y13 := HS.out.1.c 13 (.slice m.gp m.gn m.gc) rfl
          have z13 := HS.out.2.1.c 13 (.slice q.gp m.gn q.gc) rfl
          go_wp2_with (first
            | (go_at_call 31; refine (same_any b3 _ (g1.out.below HS.out.2.2.1) (g2.out.below HS.out.2.2.1)).mono ?_; rintro e w1 ⟨rfl, gr1⟩; have S1 : Hid (SmR w w1 m (m.at q)) := HS.out.step ((Below.refl _ _).grown gr1 (Nat.le_refl _) (by intro k hk; cases hk)); clear gr1; have y26 := S1.out.1.c 26 (.slice m.tp m.tn m.tc) rfl; have z26 := S1.out.2.1.c 26 (.slice q.tp m.tn q.tc) rfl)
            | (go_at_call 32; refine (sameT_ok m.tp q.tp m.tn m.tc q.tc T T2 htn htn2 b4 _ (t1.out.below S1.out.2.2.1) (t2.out.below S1.out.2.2.1) (tE.out.below S1.out.2.2.1)).mono ?_; rintro e w2 ⟨rfl, hb2⟩))
          go_ret
          exact ⟨rfl, S1.out.2.2.1.trans (hb2.mono S1.out.2.2.1.size)⟩
end Go.Proofs.Ytmfnhdflmnmooaa
