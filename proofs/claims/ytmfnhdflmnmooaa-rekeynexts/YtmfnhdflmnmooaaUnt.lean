import Derived.Test.YtmfnhdflmnmooaaSmf
import Derived.Test.YtmfnhdflmnmooaaWho
import Derived.Deep.MidRow
namespace Go.Proofs.Ytmfnhdflmnmooaa
open Go.RowKit
set_option linter.unusedVariables false
set_option linter.unusedSimpArgs false
/-- Two marks behind a list. -/
def Mk2 (w : World) (p : Option Addr) (n c sz o : Nat) (v1 v2 : Value) : Prop := ∃ g, p = some ⟨g, 0, none⟩ ∧ n + 2 ≤ c ∧ c ≤ 9223372036854775807 ∧ w.cell? ⟨g, n * sz + o, none⟩ = some v1 ∧ w.cell? ⟨g, (n + 1) * sz + o, none⟩ = some v2
theorem Mk2.below {w w' : World} {p : Option Addr} {n c sz o : Nat} {v1 v2 : Value} (h : Mk2 w p n c sz o v1 v2) (hB : Below w.heap.size w w') : Mk2 w' p n c sz o v1 v2 := by
  obtain ⟨g, hp, h1, h2, h3, h4⟩ := h
  exact ⟨g, hp, h1, h2, cell_below hB h3, cell_below hB h4⟩
set_option maxHeartbeats 8000000 in
set_option maxRecDepth 100000 in
theorem unt_ok (m : Mt) (q : Ptr) (SL : List Slo) (EL : List Epo) (f : Nat → Int × Int × Int) (T T2 : List Tk) (B : Nat) (hsn : Hid (SL.length = m.sn)) (hen : Hid (EL.length = m.en)) (htn : Hid (T.length = m.tn)) (htn2 : Hid (T2.length = m.tn)) (b1 : m.sn ≤ 1000000000000000) (b2 : m.en ≤ 1000000000000000) (b3 : m.gn ≤ 1000000000000000) (b4 : m.tn ≤ 1000000000000000) (w : World)
    (s1 : Hid (RV sloL 9 w m.sp SL)) (s2 : Hid (RV sloL 9 w q.sp SL)) (e1 : Hid (RV epoL 5 w m.ep EL)) (e2 : Hid (RV epoL 5 w q.ep EL)) (g1 : Hid (SegV w (.slice m.gp m.gn m.gc) m.gn f)) (g2 : Hid (SegV w (.slice q.gp m.gn q.gc) m.gn f)) (t1 : Hid (RV tkL 4 w m.tp T)) (t2 : Hid (RV tkL 4 w q.tp T2)) (tM : Hid (TkM B w T T2))
    (k1 : Hid (Mk2 w m.sp m.sn m.sc 9 0 (.int .i64 501) (.int .i64 502))) (k2 : Hid (Mk2 w m.ep m.en m.ec 5 0 (.int .u64 501) (.int .u64 502))) (k3 : Hid (Mk2 w m.gp m.gn m.gc 3 2 (.int .u64 501) (.int .u64 502))) (k4 : Hid (Mk2 w m.tp m.tn m.tc 4 0 (.int .i64 501) (.int .i64 502))) :
    Calls Try.prog 11 #[.agg (mtC m), .agg (mtC (m.at q))] w fun e w' => e = .returned (.bool true) ∧ Below w.heap.size w w' := by
  have st := SmR.start w m (m.at q)
  have bx := st.1
  have bz := st.2.1
  have ST : Hid (SmR w ((w.alloc (.cells (mtC m) 36)).alloc (.cells (mtC (m.at q)) 36)) m (m.at q)) := st
  clear st
  have R1 : Hid (((w.alloc (.cells (mtC m) 36)).alloc (.cells (mtC (m.at q)) 36)).rangeAt w.heap.size 0 (mtC m).toList) := fun j u hj => by
    rw [Nat.zero_add]
    exact bx.c j u (by simpa using hj)
  have R2 : Hid (((w.alloc (.cells (mtC m) 36)).alloc (.cells (mtC (m.at q)) 36)).rangeAt (w.heap.size + 1) 0 (mtC (m.at q)).toList) := fun j u hj => by
    rw [Nat.zero_add]
    exact bz.c j u (by simpa using hj)
  clear bx bz
  have H10 : Hid (∀ u, Below w.heap.size w u → Calls Try.prog 10 #[.agg (mtC m), .agg (mtC (m.at q))] u fun e w' => e = .returned (.bool true) ∧ Below u.heap.size u w') := fun u hu =>
    same10 m q SL EL f T T2 hsn hen htn htn2 b1 b2 b3 b4 u (s1.out.below hu) (s2.out.below hu) (e1.out.below hu) (e2.out.below hu) (g1.out.below hu) (g2.out.below hu) (t1.out.below hu) (t2.out.below hu) (fun i x y hx hy => by
      obtain ⟨a, b, c, zs, h1, h2⟩ := tM.out.e i x y hx hy
      exact ⟨a, b, c, zs, h1.kept hu.block, h2.kept hu.block⟩)
  clear s1 s2 e1 e2 g1 g2 hsn hen
  obtain ⟨ga, p1, i1, j1, l1, l1'⟩ := k1.out
  obtain ⟨gb, p2, i2, j2, l2, l2'⟩ := k2.out
  obtain ⟨gc, p3, i3, j3, l3, l3'⟩ := k3.out
  obtain ⟨gd, p4, i4, j4, l4, l4'⟩ := k4.out
  have P1 : Hid (m.sp = some ⟨ga, 0, none⟩ ∧ w.cell? ⟨ga, m.sn * 9 + 0, none⟩ = some (.int .i64 501) ∧ w.cell? ⟨ga, (m.sn + 1) * 9 + 0, none⟩ = some (.int .i64 502)) := ⟨p1, l1, l1'⟩
  have P2 : Hid (m.ep = some ⟨gb, 0, none⟩ ∧ w.cell? ⟨gb, m.en * 5 + 0, none⟩ = some (.int .u64 501) ∧ w.cell? ⟨gb, (m.en + 1) * 5 + 0, none⟩ = some (.int .u64 502)) := ⟨p2, l2, l2'⟩
  have P3 : Hid (m.gp = some ⟨gc, 0, none⟩ ∧ w.cell? ⟨gc, m.gn * 3 + 2, none⟩ = some (.int .u64 501) ∧ w.cell? ⟨gc, (m.gn + 1) * 3 + 2, none⟩ = some (.int .u64 502)) := ⟨p3, l3, l3'⟩
  have P4 : Hid (m.tp = some ⟨gd, 0, none⟩ ∧ w.cell? ⟨gd, m.tn * 4 + 0, none⟩ = some (.int .i64 501) ∧ w.cell? ⟨gd, (m.tn + 1) * 4 + 0, none⟩ = some (.int .i64 502)) := ⟨p4, l4, l4'⟩
  clear p1 p2 p3 p4 l1 l1' l2 l2' l3 l3' l4 l4' k1 k2 k3 k4
  go_enter Try.func11, Try.ntmps11
  go_upto_region 1 with fail
  generalize (w.alloc (.cells (mtC m) 36)).alloc (.cells (mtC (m.at q)) 36) = W0 at ST R1 R2 ⊢
  go_upto_region 3 with (first
    | (refine wpList_load_mid (by rfl) 36 (.tmp 2) (by rfl) w.heap.size 0 (by rfl) (mtC m).toList _ R1.out Try.underlying36 rfl (size36 m) ?_)
    | (refine wpList_load_mid (by rfl) 36 (.tmp 3) (by rfl) (w.heap.size + 1) 0 (by rfl) (mtC (m.at q)).toList _ R2.out Try.underlying36 rfl (size36 (m.at q)) ?_)
    | (go_at_call 10; refine (H10.out _ ST.out.2.2.1).mono ?_; rintro e w1 ⟨rfl, gr1⟩; have ST1 : Hid (SmR w w1 m (m.at q)) := ST.out.step gr1))
  clear ST R1 R2 gr1 H10
  have y11 : w1.cell? ⟨w.heap.size, 11, none⟩ = some (.slice (some ⟨ga, 0, none⟩) m.sn m.sc) := by rw [← P1.out.1]; exact ST1.out.1.c 11 _ rfl
  have y12 : w1.cell? ⟨w.heap.size, 12, none⟩ = some (.slice (some ⟨gb, 0, none⟩) m.en m.ec) := by rw [← P2.out.1]; exact ST1.out.1.c 12 _ rfl
  have y13 : w1.cell? ⟨w.heap.size, 13, none⟩ = some (.slice (some ⟨gc, 0, none⟩) m.gn m.gc) := by rw [← P3.out.1]; exact ST1.out.1.c 13 _ rfl
  have y26 : w1.cell? ⟨w.heap.size, 26, none⟩ = some (.slice (some ⟨gd, 0, none⟩) m.tn m.tc) := by rw [← P4.out.1]; exact ST1.out.1.c 26 _ rfl
  go_upto_region 12 with fail
  clear y11 y12 y13 y26
  go_loopw [10] (fun i wr => ∃ k : Nat, k ≤ m.tn ∧ i = .int .i64 k ∧ Hid (SmR w wr m (m.at q))) (fun i _ => m.tn - (intOf i).toNat)
  case atStart => exact ⟨0, Nat.zero_le _, rfl, ST1⟩
  case round =>
    obtain ⟨k, hk, rfl, HS⟩ := hrel
    clear ST1
    by_cases hlt : k < m.tn
    · have y26 := HS.out.1.c 26 (.slice m.tp m.tn m.tc) rfl
      have z26 := HS.out.2.1.c 26 (.slice q.tp m.tn q.tc) rfl
      obtain ⟨x, hx⟩ : ∃ x, T[k]? = some x := ⟨T[k]'(by have := htn.out; omega), List.getElem?_eq_getElem _⟩
      obtain ⟨y, hy⟩ : ∃ y, T2[k]? = some y := ⟨T2[k]'(by have := htn2.out; omega), List.getElem?_eq_getElem _⟩
      obtain ⟨ba, oa, hpa, hba, ca⟩ := (t1.out.below HS.out.2.2.1).get hx
      obtain ⟨bb, ob, hpb, hbb, cb⟩ := (t2.out.below HS.out.2.2.1).get hy
      obtain ⟨_, _, _, zs, v1, v2⟩ := tM.out k x y hx hy
      rw [hpa] at y26
      rw [hpb] at z26
      have a2 : wr.cell? ⟨ba, oa + k * 4 + 2, none⟩ = some (.slice x.p x.l x.c) := ca 2 _ rfl
      have c2 : wr.cell? ⟨bb, ob + k * 4 + 2, none⟩ = some (.slice y.p y.l y.c) := cb 2 _ rfl
      have H33 : Hid (∀ n, Calls Try.prog 33 #[.slice x.p x.l x.c, .slice y.p y.l y.c] (wr.drewN n) fun e w' => e = .returned (.bool true) ∧ ∃ j, w' = (wr.drewN n).drewN j) := fun n => by
        have hu : Below w.heap.size w (wr.drewN n) := HS.out.2.2.1.trans ((below_drewN wr n).mono HS.out.2.2.1.size)
        exact wholeI_any _ _ zs B _ (v1.kept hu.block) (v2.kept hu.block)
      clear ca cb hpa hpb hx hy t1 t2 tM v1 v2 P1 P2 P3 P4
      go_wp2
      go_quiet ((go_at_call 33; exact Calls.quiet_of (H33.out _)))
      go_wp2
      go_roundw
      case rel => exact ⟨k + 1, by omega, by go_num, HS.out.step (below_drewN _ _)⟩
      case measure => simp [intOf]; omega
    · have hB := HS.out.2.2.1
      have x1 : wr.cell? ⟨ga, m.sn * 9, none⟩ = some (.int .i64 501) := cell_below hB P1.out.2.1
      have x2 : wr.cell? ⟨ga, (m.sn + 1) * 9, none⟩ = some (.int .i64 502) := cell_below hB P1.out.2.2
      have x3 : wr.cell? ⟨gb, m.en * 5, none⟩ = some (.int .u64 501) := cell_below hB P2.out.2.1
      have x4 : wr.cell? ⟨gb, (m.en + 1) * 5, none⟩ = some (.int .u64 502) := cell_below hB P2.out.2.2
      have x5 : wr.cell? ⟨gc, m.gn * 3 + 2, none⟩ = some (.int .u64 501) := cell_below hB P3.out.2.1
      have x6 : wr.cell? ⟨gc, (m.gn + 1) * 3 + 2, none⟩ = some (.int .u64 502) := cell_below hB P3.out.2.2
      have x7 : wr.cell? ⟨gd, m.tn * 4, none⟩ = some (.int .i64 501) := cell_below hB P4.out.2.1
      have x8 : wr.cell? ⟨gd, (m.tn + 1) * 4, none⟩ = some (.int .i64 502) := cell_below hB P4.out.2.2
      clear t1 t2 tM hB
      go_wp2
      go_ret
      exact ⟨rfl, HS.out.2.2.1⟩
end Go.Proofs.Ytmfnhdflmnmooaa
