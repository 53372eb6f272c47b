import Derived.Test.YtchfbanehohjoaaSme
import Derived.Deep.MidRow
namespace Go.Proofs.Ytchfbanehohjoaa
open Go.RowKit
set_option linter.unusedVariables false
set_option linter.unusedSimpArgs false
/-- A mark behind a list's end. -/
def Mk (w : World) (p : Option Addr) (n c sz : Nat) (v : Value) : Prop := ∃ g, p = some ⟨g, 0, none⟩ ∧ n + 1 ≤ c ∧ c ≤ 9223372036854775807 ∧ w.cell? ⟨g, n * sz, none⟩ = some v
theorem Mk.below {w w' : World} {p : Option Addr} {n c sz : Nat} {v : Value} (h : Mk w p n c sz v) (hB : Below w.heap.size w w') : Mk w' p n c sz v := by
  obtain ⟨g, hp, h1, h2, h3⟩ := h
  exact ⟨g, hp, h1, h2, cell_below hB h3⟩
/-- The first one's tokens bear marked copies of the second one's numbers. -/
def TkM (B : Nat) (w : World) (T T2 : List Tk) : Prop := ∀ (i : Nat) (x y : Tk), T[i]? = some x → T2[i]? = some y → x.n = y.n ∧ x.s = y.s ∧ x.z = y.z ∧ ∃ zs, Marked B w (.slice x.p x.l x.c) zs ∧ View w (.slice y.p y.l y.c) zs
theorem TkM.e {B : Nat} {w : World} {T T2 : List Tk} (h : TkM B w T T2) : TkE w T T2 := fun i x y hx hy => by
  obtain ⟨a, b, c, zs, h1, h2⟩ := h i x y hx hy
  exact ⟨a, b, c, zs, h1.view, h2⟩
theorem info36s : (Try.prog.info? 36).map (·.size) = some 27 := by kernel_rfl
theorem size36 (m : Mt) : (Try.prog.info? 36).map (·.size) = some (mtC m).toList.length := by rw [info36s]; rfl
set_option maxHeartbeats 4000000 in
set_option maxRecDepth 100000 in
theorem whole9 (m : Mt) (q : Ptr) (SL : List Slo) (EL : List Epo) (f : Nat → Int × Int × Int) (T T2 : List Tk) (B : Nat) (hsn : Hid (SL.length = m.sn)) (hen : Hid (EL.length = m.en)) (htn : Hid (T.length = m.tn)) (htn2 : Hid (T2.length = m.tn)) (b1 : m.sn ≤ 1000000000000000) (b2 : m.en ≤ 1000000000000000) (b3 : m.gn ≤ 1000000000000000) (b4 : m.tn ≤ 1000000000000000) (w : World)
    (s1 : Hid (RV sloL 9 w m.sp SL)) (s2 : Hid (RV sloL 9 w q.sp SL)) (e1 : Hid (RV epoL 5 w m.ep EL)) (e2 : Hid (RV epoL 5 w q.ep EL)) (g1 : Hid (SegV w (.slice m.gp m.gn m.gc) m.gn f)) (g2 : Hid (SegV w (.slice q.gp m.gn q.gc) m.gn f)) (t1 : Hid (RV tkL 4 w m.tp T)) (t2 : Hid (RV tkL 4 w q.tp T2)) (tM : Hid (TkM B w T T2))
    (k1 : Hid (Mk w m.sp m.sn m.sc 9 (.int .i64 (-77)))) (k2 : Hid (Mk w m.ep m.en m.ec 5 (.int .u64 77))) (k3 : Hid (Mk w m.gp m.gn m.gc 3 (.int .u64 77))) (k4 : Hid (Mk w m.tp m.tn m.tc 4 (.int .i64 (-77)))) :
    Calls Try.prog 9 #[.agg (mtC m), .agg (mtC (m.at q))] w fun e w' => e = .returned (.bool true) ∧ Below w.heap.size w w' := by
  have st := SmR.start w m (m.at q)
  have bx := st.1
  have bz := st.2.1
  have ST : Hid (SmR w ((w.alloc (.cells (mtC m) 36)).alloc (.cells (mtC (m.at q)) 36)) m (m.at q)) := st
  clear st
  have R1 : Hid (((w.alloc (.cells (mtC m) 36)).alloc (.cells (mtC (m.at q)) 36)).rangeAt w.heap.size 0 (mtC m).toList) := fun j u hj => by
    rw [Nat.zero_add]
    exact bx.c j u (by simpa using hj)
  have R2 : Hid (((w.alloc (.cells (mtC m) 36)).alloc (.cells (mtC (m.at q)) 36)).rangeAt (w.heap.size + 1) 0 (mtC (m.at q)).toList) := fun j u hj => by
    rw [Nat.zero_add]
    exact bz.c j u (by simpa using hj)
  clear bx bz
  have H15 : Hid (∀ u, Below w.heap.size w u → Calls Try.prog 15 #[.agg (mtC m), .agg (mtC (m.at q))] u fun e w' => e = .returned (.bool true) ∧ Below u.heap.size u w') := fun u hu =>
    same15 m q SL EL f T T2 hsn hen htn htn2 b1 b2 b3 b4 u (s1.out.below hu) (s2.out.below hu) (e1.out.below hu) (e2.out.below hu) (g1.out.below hu) (g2.out.below hu) (t1.out.below hu) (t2.out.below hu) (fun i x y hx hy => by
      obtain ⟨a, b, c, zs, h1, h2⟩ := tM.out.e i x y hx hy
      exact ⟨a, b, c, zs, h1.kept hu.block, h2.kept hu.block⟩)
  clear s1 s2 e1 e2 g1 g2 hsn hen
  go_enter Try.func9, Try.ntmps9
  go_upto_region 1 with fail
  generalize (w.alloc (.cells (mtC m) 36)).alloc (.cells (mtC (m.at q)) 36) = W0 at ST R1 R2 ⊢
  go_wp2_with (first
    | (refine wpList_load_mid (by rfl) 36 (.tmp 2) (by rfl) w.heap.size 0 (by rfl) (mtC m).toList _ R1.out Try.underlying36 rfl (size36 m) ?_)
    | (refine wpList_load_mid (by rfl) 36 (.tmp 3) (by rfl) (w.heap.size + 1) 0 (by rfl) (mtC (m.at q)).toList _ R2.out Try.underlying36 rfl (size36 (m.at q)) ?_)
    | (go_at_call 15; refine (H15.out _ ST.out.2.2.1).mono ?_; rintro e w1 ⟨rfl, gr1⟩; have ST1 : Hid (SmR w w1 m (m.at q)) := ST.out.step gr1))
  clear ST R1 R2 gr1 H15
  go_loopw [5] (fun i wr => ∃ k : Nat, k ≤ m.tn ∧ i = .int .i64 k ∧ Hid (SmR w wr m (m.at q))) (fun i _ => m.tn - (intOf i).toNat)
  case atStart => exact ⟨0, Nat.zero_le _, rfl, ST1⟩
  case round =>
    obtain ⟨k, hk, rfl, HS⟩ := hrel
    clear ST1
    have y26 := HS.out.1.c 26 (.slice m.tp m.tn m.tc) rfl
    have z26 := HS.out.2.1.c 26 (.slice q.tp m.tn q.tc) rfl
    by_cases hlt : k < m.tn
    · obtain ⟨x, hx⟩ : ∃ x, T[k]? = some x := ⟨T[k]'(by have := htn.out; omega), List.getElem?_eq_getElem _⟩
      obtain ⟨y, hy⟩ : ∃ y, T2[k]? = some y := ⟨T2[k]'(by have := htn2.out; omega), List.getElem?_eq_getElem _⟩
      obtain ⟨ba, oa, hpa, hba, ca⟩ := (t1.out.below HS.out.2.2.1).get hx
      obtain ⟨bb, ob, hpb, hbb, cb⟩ := (t2.out.below HS.out.2.2.1).get hy
      obtain ⟨_, _, _, zs, v1, v2⟩ := tM.out k x y hx hy
      rw [hpa] at y26
      rw [hpb] at z26
      have a2 : wr.cell? ⟨ba, oa + k * 4 + 2, none⟩ = some (.slice x.p x.l x.c) := ca 2 _ rfl
      have c2 : wr.cell? ⟨bb, ob + k * 4 + 2, none⟩ = some (.slice y.p y.l y.c) := cb 2 _ rfl
      have H16 : Hid (∀ n, Calls Try.prog 16 #[.slice x.p x.l x.c, .slice y.p y.l y.c] (wr.drewN n) fun e w' => e = .returned (.bool true) ∧ ∃ j, w' = (wr.drewN n).drewN j) := fun n => by
        have hu : Below w.heap.size w (wr.drewN n) := HS.out.2.2.1.trans ((below_drewN wr n).mono HS.out.2.2.1.size)
        exact wholeI_any _ _ zs B _ (v1.kept hu.block) (v2.kept hu.block)
      clear ca cb hpa hpb hx hy t1 t2 tM v1 v2 k1 k2 k3 k4
      go_wp2
      go_quiet ((go_at_call 16; exact Calls.quiet_of (H16.out _)))
      go_wp2
      go_roundw
      case rel => exact ⟨k + 1, by omega, by go_num, HS.out.step (below_drewN _ _)⟩
      case measure => simp [intOf]; omega
    · have y11 := HS.out.1.c 11 (.slice m.sp m.sn m.sc) rfl
      have z11 := HS.out.2.1.c 11 (.slice q.sp m.sn q.sc) rfl
      have y12 := HS.out.1.c 12 (.slice m.ep m.en m.ec) rfl
      have z12 := HS.out.2.1.c 12 (.slice q.ep m.en q.ec) rfl
      have y13 := HS.out.1.c 13 (.slice m.gp m.gn m.gc) rfl
      have z13 := HS.out.2.1.c 13 (.slice q.gp m.gn q.gc) rfl
      obtain ⟨ga, p1, i1, j1, l1⟩ := k1.out.below HS.out.2.2.1
      obtain ⟨gb, p2, i2, j2, l2⟩ := k2.out.below HS.out.2.2.1
      obtain ⟨gc, p3, i3, j3, l3⟩ := k3.out.below HS.out.2.2.1
      obtain ⟨gd, p4, i4, j4, l4⟩ := k4.out.below HS.out.2.2.1
      rw [p1] at y11
      rw [p2] at y12
      rw [p3] at y13
      rw [p4] at y26
      clear k1 k2 k3 k4 p1 p2 p3 p4 t1 t2 tM
      go_wp2
      go_ret
      exact ⟨rfl, HS.out.2.2.1⟩
end Go.Proofs.Ytchfbanehohjoaa
