import Derived.Test.YtkeklmkaleomkaaDoorPart12
import Derived.Test.YtkeklmkaleomkaaDoorRows
import Derived.Test.YtkeklmkaleomkaaDoorPart00
import Derived.ProofKit
import Derived.OpenShut
import Derived.ShutString
import Derived.ChangeOld
import Derived.Below
import Derived.SizedLaws
import Derived.Lib.LaidTab
import Derived.Deep.DeepHandedRow
import Derived.Test.YtkeklmkaleomkaaDoorPart06
import Derived.Test.YtkeklmkaleomkaaDoorCards
import Derived.Test.YtkeklmkaleomkaaDoorTie
import Derived.Test.YtkeklmkaleomkaaDoorPart04
import Derived.Deep.Slices
namespace Go.Proofs.YtkeklmkaleomkaaDoor
open Go.RowKit
set_option linter.unusedVariables false
set_option linter.unusedSimpArgs false
set_option maxHeartbeats 1600000 in
set_option maxRecDepth 100000 in
theorem pl_long (h L : Int) (ea na pa : Option Addr) (en ec nn nc pn pc : Nat) (sv : Value) (w : World) (b1 : en ≤ 140737488355328) (b2 : nn ≤ 140737488355328) (b3 : pn ≤ 140737488355328) (hs : 262144 < en + nn + pn) :
    Calls Tryd.prog 7 #[.agg #[.int .i64 h, .int .i64 L, .slice ea en ec, .slice na nn nc, .slice pa pn pc], sv] w fun e w' => e = .returned (.bool true) ∧ Below w.heap.size w w' := by
  have d1 : (262144 : Int) < ((en : Nat) : Int) + ((nn : Nat) : Int) + ((pn : Nat) : Int) := by omega
  have HA0 : Hid (SeedAt (w.alloc (.cells #[.int .i64 h, .int .i64 L, .slice ea en ec, .slice na nn nc, .slice pa pn pc] 24)) w.heap.size h L (.slice ea en ec) (.slice na nn nc) (.slice pa pn pc) ∧ Below w.heap.size w (w.alloc (.cells #[.int .i64 h, .int .i64 L, .slice ea en ec, .slice na nn nc, .slice pa pn pc] 24))) := ⟨SeedAt.new _ _ _ _ _ _ _, below_alloc1 _ _⟩
  go_enter Tryd.func7, Tryd.ntmps7
  go_upto_region 1 with fail
  generalize w.alloc (.cells #[.int .i64 h, .int .i64 L, .slice ea en ec, .slice na nn nc, .slice pa pn pc] 24) = w0 at HA0 ⊢
  have c2 := HA0.out.1.c2
  have c3 := HA0.out.1.c3
  have c4 := HA0.out.1.c4
  go_wp2
  go_ret
  exact ⟨rfl, HA0.out.2⟩
/-- In the last loop. -/
structure FLp (w wr : World) (m : Nat) (d0 d1 : Option Desc) (ov wv : Value) (ts : List (Value × Value × List Int)) (left : Int) (j : Nat) : Prop where
  bel : Below w.heap.size w wr
  ps : PS wr w.heap.size m d0 d1 ov wv ts.length (ts.map (·.1)) (ts.map (·.2.1)) left
  dr : Drw wr w.heap.size (PMb m d0 d1 ov wv) (orb d0 ++ orb d1) (ts.drop j)
/-- The state in the loop. -/
def St (w wr : World) (m k : Nat) : Prop := Below w.heap.size w wr ∧ ∃ d0 d1 ov wv ts left, PSD True wr w.heap.size m d0 d1 ov wv ts left ∧ ts.length ≤ k
set_option maxHeartbeats 6400000 in
set_option maxRecDepth 100000 in
theorem pl_main (h L : Int) (ea na pa sa : Option Addr) (en ec nn nc pn pc sn sc : Nat) (E N P : List Int) (w : World) (hT : Hid (Tables w)) (hR : Hid (RTab w)) (he : Hid (View w (.slice ea en ec) E)) (hel : Hid (E.length = en)) (hn : Hid (View w (.slice na nn nc) N)) (hnl : Hid (N.length = nn)) (hp : Hid (View w (.slice pa pn pc) P)) (hpl : Hid (P.length = pn)) (HSc : Hid (ScAt w sa sn)) (hsn : sn ≤ sc) (hsc : sc ≤ 9223372036854775807) (hs : en + nn + pn ≤ 262144) :
    Calls Tryd.prog 7 #[.agg #[.int .i64 h, .int .i64 L, .slice ea en ec, .slice na nn nc, .slice pa pn pc], .slice sa sn sc] w fun e w' => Hid (e = .returned (.bool true) ∧ Below w.heap.size w w') := by
  have hT4 := hT.out.size
  have d1 : ¬ (262144 : Int) < ((en : Nat) : Int) + ((nn : Nat) : Int) + ((pn : Nat) : Int) := by omega
  have e1 : ((en : Nat) : Int) ≤ 262144 := by omega
  have e2 : ((nn : Nat) : Int) ≤ 262144 := by omega
  have e3 : ((pn : Nat) : Int) ≤ 262144 := by omega
  have HTR : Hid (∀ u, Below w.heap.size w u → Tables u ∧ RTab u) := fun u hu => ⟨hT.out.below hu hT4, hR.out.below hu (by have := hR.out.size; omega)⟩
  have HA0 : Hid (SeedAt (w.alloc (.cells #[.int .i64 h, .int .i64 L, .slice ea en ec, .slice na nn nc, .slice pa pn pc] 24)) w.heap.size h L (.slice ea en ec) (.slice na nn nc) (.slice pa pn pc) ∧ Below w.heap.size w (w.alloc (.cells #[.int .i64 h, .int .i64 L, .slice ea en ec, .slice na nn nc, .slice pa pn pc] 24)) ∧ (w.alloc (.cells #[.int .i64 h, .int .i64 L, .slice ea en ec, .slice na nn nc, .slice pa pn pc] 24)).heap.size = w.heap.size + 1) := ⟨SeedAt.new _ _ _ _ _ _ _, below_alloc1 _ _, size_alloc1 _ _⟩
  go_enter Tryd.func7, Tryd.ntmps7
  go_upto_region 1 with fail
  generalize w.alloc (.cells #[.int .i64 h, .int .i64 L, .slice ea en ec, .slice na nn nc, .slice pa pn pc] 24) = w0 at HA0 ⊢
  have c2 := HA0.out.1.c2
  have c3 := HA0.out.1.c3
  have c4 := HA0.out.1.c4
  have HB0 : Hid (Below w.heap.size w w0) := HA0.out.2.1
  have H18 : Hid (Calls Tryd.prog 18 #[] w0 fun e w' => Hid (e = .returned (.bool true) ∧ Below w0.heap.size w0 w')) := first_ok w0 (HTR.out w0 HB0.out).1
  go_upto_region 4 with (go_at_call 18; refine H18.out.mono ?_; intro e1 w1 hh; obtain ⟨rfl, hb1⟩ := hh.out)
  have HB1 : Hid (Below w.heap.size w w1) := HB0.out.trans (hb1.mono HB0.out.size)
  have HA1 : Hid (SeedAt w1 w.heap.size h L (.slice ea en ec) (.slice na nn nc) (.slice pa pn pc)) := HA0.out.1.below hb1
  clear hh hb1 H18 c2 c3 c4 HA0 HB0
  have HM2 : Hid (Below w1.heap.size w1 (w1.alloc (.cells #[.pointer none, .pointer none, .pointer none, .pointer none, .slice none 0 0, .slice none 0 0, .int .i64 8192] 55)) ∧ (w1.alloc (.cells #[.pointer none, .pointer none, .pointer none, .pointer none, .slice none 0 0, .slice none 0 0, .int .i64 8192] 55)).heap.size = w1.heap.size + 1 ∧ (w1.alloc (.cells #[.pointer none, .pointer none, .pointer none, .pointer none, .slice none 0 0, .slice none 0 0, .int .i64 8192] 55)).rangeAt w1.heap.size 0 [.pointer none, .pointer none, .pointer none, .pointer none, .slice none 0 0, .slice none 0 0, .int .i64 8192] ∧ (w1.alloc (.cells #[.pointer none, .pointer none, .pointer none, .pointer none, .slice none 0 0, .slice none 0 0, .int .i64 8192] 55)).there w1.heap.size 0 7) := ⟨below_alloc1 _ _, size_alloc1 _ _, rangeAt_new w1 #[.pointer none, .pointer none, .pointer none, .pointer none, .slice none 0 0, .slice none 0 0, .int .i64 8192] 55, there_new w1 #[.pointer none, .pointer none, .pointer none, .pointer none, .slice none 0 0, .slice none 0 0, .int .i64 8192] 55 7 (Nat.le_refl _)⟩
  generalize w1.alloc (.cells #[.pointer none, .pointer none, .pointer none, .pointer none, .slice none 0 0, .slice none 0 0, .int .i64 8192] 55) = w2 at HM2 ⊢
  have HB2 : Hid (Below w.heap.size w w2) := HB1.out.trans (HM2.out.1.mono HB1.out.size)
  have HA2 : Hid (SeedAt w2 w.heap.size h L (.slice ea en ec) (.slice na nn nc) (.slice pa pn pc)) := HA1.out.below HM2.out.1
  have c0 := HA2.out.c0
  have c1 := HA2.out.c1
  have c2 := HA2.out.c2
  have c3 := HA2.out.c3
  have c4 := HA2.out.c4
  have H17 : Hid (Calls Tryd.prog 17 #[.agg #[.int .i64 h, .int .i64 L, .slice ea en ec, .slice na nn nc, .slice pa pn pc]] w2 fun e w' => Hid (BgP w2 w' e)) := begun_any h L ea na pa en ec nn nc pn pc E N P w2 (HTR.out w2 HB2.out).1 (HTR.out w2 HB2.out).2 (he.out.kept fun q hq => HB2.out.block q hq) hel (hn.out.kept fun q hq => HB2.out.block q hq) hnl (hp.out.kept fun q hq => HB2.out.block q hq) hpl hs
  go_upto_region 7 with (go_at_call 17; refine H17.out.mono ?_; intro e3 w3 hh; obtain ⟨d, pa', pb', rfl, q1, q2, q3, q4, q5, q6, q7⟩ := hh.out)
  have HF3 : Hid (PSD True ((w3.setCell ⟨w1.heap.size, 0, none⟩ (.pointer pa')).setCell ⟨w1.heap.size, 2, none⟩ (.pointer pb')) w.heap.size w1.heap.size d none (.slice none 0 0) (.slice none 0 0) [] 8192 ∧ Below w2.heap.size w2 w3 ∧ Fr w3 ((w3.setCell ⟨w1.heap.size, 0, none⟩ (.pointer pa')).setCell ⟨w1.heap.size, 2, none⟩ (.pointer pb')) [w1.heap.size]) := by
    have r := HM2.out.2.2.1
    exact PSD.first (by have := HM2.out.2.1; omega) HB1.out.size (r 0 _ rfl) (r 1 _ rfl) (r 2 _ rfl) (r 3 _ rfl) (r 4 _ rfl) (r 5 _ rfl) (r 6 _ rfl) HM2.out.2.2.2 q1 q2 q3 q4 q5 q6 q7
  have b3 : w3.heap[w1.heap.size]? = w2.heap[w1.heap.size]? := q3.block _ (by have := HM2.out.2.1; omega)
  have k0 : w3.cell? ⟨w1.heap.size, 0, none⟩ = some (.pointer none) := by rw [World.cell?_of_block (a := ⟨w1.heap.size, 0, none⟩) b3]; exact HM2.out.2.2.1 0 _ rfl
  have k2 : w3.cell? ⟨w1.heap.size, 2, none⟩ = some (.pointer none) := by rw [World.cell?_of_block (a := ⟨w1.heap.size, 2, none⟩) b3]; exact HM2.out.2.2.1 2 _ rfl
  have f0 : w3.frozen? ⟨w1.heap.size, 0, none⟩ = false := by
    have := ((there_blk HM2.out.2.2.2 b3) 0 (by omega)).2
    rw [Nat.zero_add] at this
    exact this
  have f2 : w3.frozen? ⟨w1.heap.size, 2, none⟩ = false := by
    have := ((there_blk HM2.out.2.2.2 b3) 2 (by omega)).2
    rw [Nat.zero_add] at this
    exact this
  clear hh q1 q2 q3 q4 q5 q6 q7 b3 H17 c0 c1 c2 c3 c4 HA1 HA2
  go_upto_region 9 with fail
  have HSt : Hid (St w ((w3.setCell ⟨w1.heap.size, 0, none⟩ (.pointer pa')).setCell ⟨w1.heap.size, 2, none⟩ (.pointer pb')) w1.heap.size 0) := ⟨(HB2.out.trans (HF3.out.2.1.mono HB2.out.size)).trans (HF3.out.2.2.toBelow (fun b hb => by rw [List.mem_singleton.1 hb]; exact HB1.out.size) (by have := HB2.out.size; have := HF3.out.2.1.size; omega)), _, _, _, _, _, _, HF3.out.1, Nat.le_refl _⟩
  generalize (w3.setCell ⟨w1.heap.size, 0, none⟩ (.pointer pa')).setCell ⟨w1.heap.size, 2, none⟩ (.pointer pb') = w5 at HSt ⊢
  have HW1 : Hid (w.heap.size ≤ w1.heap.size) := HB1.out.size
  clear k0 k2 f0 f2 HF3 HM2 HB1 HB2
  go_upto_region 10 with fail
  go_wp2
  go_loopw [9, 10] (fun vf vi wr => ∃ f k : Nat, vf = .int .i64 (f : Nat) ∧ vi = .int .i64 (k : Nat) ∧ f ≤ 262144 ∧ k ≤ 30 ∧ Hid (St w wr w1.heap.size k)) (fun _ vi _ => 30 - (intOf vi).toNat)
  case atStart => exact ⟨262144, 0, rfl, rfl, by omega, by omega, HSt⟩
  case round =>
    obtain ⟨f, k, rfl, rfl, hf, hk, HR⟩ := hrel
    clear HSt
    by_cases h1 : (k : Int) < (sn : Nat)
    case neg =>
      have dd1 : decide ((k : Int) < (sn : Nat)) = false := by simp; omega
      obtain ⟨d0, d1, ov, wv, ts, left, HP6⟩ : ∃ d0 d1 ov wv ts left, Hid (PSD True wr w.heap.size w1.heap.size d0 d1 ov wv ts left ∧ ts.length ≤ k) := HR.out.2
      have HB6 : Hid (Below w.heap.size w wr) := HR.out.1
      have HNil : Hid (∀ u, Below w.heap.size w u → ∀ v, Below w.heap.size u v → PV v (.slice none 0 0) [] [] ∧ View v (.slice none 0 0) [] ∧ Tables v ∧ RTab v) := fun u hu v hv => ⟨⟨none, 0, rfl, Nat.le_refl _, by simp [maxLen], rfl, fun i x hx => by simp at hx, .inl rfl⟩, ⟨none, 0, rfl, Nat.le_refl _, Nat.zero_le _, fun _ => rfl, .inl rfl⟩, HTR.out v (hu.trans hv)⟩
      have H20 : Hid (Calls Tryd.prog 20 #[.pointer (some ⟨w1.heap.size, 0, none⟩), .agg #[.int .i64 3, .int .i64 0, .int .i64 0, .slice none 0 0, .slice none 0 0]] wr fun e w' => Hid (StepP True wr w' e w.heap.size w1.heap.size ts.length)) := plays_any True w.heap.size w1.heap.size d0 d1 ov wv ts left 0 0 none none 0 0 0 0 [] [] [] wr HP6.out.1 hT4 (HNil.out wr HB6.out) rfl (by show _ ≤ _; simp) (by omega) rfl (by omega) (by have := HP6.out.2; omega) 3
      clear HR
      go_upto_region 18 with fail
      go_wp2_with (go_at_call 20; refine H20.out.mono ?_)
      intro e7 w7 hh
      obtain ⟨rfl, bel7, hx7⟩ := hh.out
      obtain ⟨d2, d3, ov2, wv2, ts2, left2, HP7⟩ : ∃ d0 d1 ov wv ts left, Hid (PSD True w7 w.heap.size w1.heap.size d0 d1 ov wv ts left ∧ ts.length ≤ k + 1) := by
        obtain ⟨d0', d1', ov', wv', ts', left', q1, q2⟩ := hx7
        exact ⟨d0', d1', ov', wv', ts', left', q1, by have := HP6.out.2; omega⟩
      have HB7 : Hid (Below w.heap.size w w7) := HB6.out.trans bel7
      clear hh bel7 hx7 H20 HP6 HB6
      have H20 : Hid (Calls Tryd.prog 20 #[.pointer (some ⟨w1.heap.size, 0, none⟩), .agg #[.int .i64 3, .int .i64 1, .int .i64 0, .slice none 0 0, .slice none 0 0]] w7 fun e w' => Hid (StepP True w7 w' e w.heap.size w1.heap.size ts2.length)) := plays_any True w.heap.size w1.heap.size d2 d3 ov2 wv2 ts2 left2 1 0 none none 0 0 0 0 [] [] [] w7 HP7.out.1 hT4 (HNil.out w7 HB7.out) rfl (by show _ ≤ _; simp) (by omega) rfl (by omega) (by have := HP7.out.2; omega) 3
      go_upto_region 20 with (go_at_call 20; refine H20.out.mono ?_; intro e8 w8 hh; obtain ⟨rfl, bel8, hx8⟩ := hh.out)
      obtain ⟨d4, d5, ov4, wv4, ts4, left4, HP8⟩ : ∃ d0 d1 ov wv ts left, Hid (PSD True w8 w.heap.size w1.heap.size d0 d1 ov wv ts left ∧ ts.length ≤ k + 2) := by
        obtain ⟨d0', d1', ov', wv', ts', left', q1, q2⟩ := hx8
        exact ⟨d0', d1', ov', wv', ts', left', q1, by have := HP7.out.2; omega⟩
      have HB8 : Hid (Below w.heap.size w w8) := HB7.out.trans bel8
      clear hh bel8 hx8 H20 HP7 HB7
      obtain ⟨ova, ovc, hov⟩ := owns_sl22 HP8.out.1.ps.out
      obtain ⟨wva, wvc, hwv⟩ := owns_sl22 HP8.out.1.ps.was
      obtain ⟨tn, HTN⟩ : ∃ tn, Hid (tn = ts4.length) := ⟨_, rfl⟩
      rw [← HTN.out] at hov hwv
      subst hov hwv
      have HX0 : Hid (FLp w w8 w1.heap.size d4 d5 (.slice ova tn ovc) (.slice wva tn wvc) ts4 left4 0) := ⟨HB8.out, HP8.out.1.ps, HP8.out.1.dr trivial⟩
      have htn : tn ≤ 40 := by rw [HTN.out]; have := HP8.out.2; omega
      clear HP8 HB8
      go_wp2
      go_loopw [12] (fun vi wx => ∃ j : Nat, vi = .int .i64 (j : Nat) ∧ j ≤ tn ∧ Hid (FLp w wx w1.heap.size d4 d5 (.slice ova tn ovc) (.slice wva tn wvc) ts4 left4 j)) (fun vi _ => tn - (intOf vi).toNat)
      case atStart => exact ⟨0, rfl, by omega, HX0⟩
      case round =>
        obtain ⟨j, rfl, hj, HX⟩ := hrel
        clear HX0
        have k4 : wr.cell? ⟨w1.heap.size, 4, none⟩ = some (.slice ova tn ovc) := HX.out.ps.co
        by_cases hjt : (j : Int) < (tn : Nat)
        · have k5 : wr.cell? ⟨w1.heap.size, 5, none⟩ = some (.slice wva tn wvc) := HX.out.ps.cw
          have hjl : j < ts4.length := by rw [← HTN.out]; omega
          obtain ⟨t, HTJ⟩ : ∃ t, Hid (ts4[j]? = some t ∧ ts4.drop j = t :: ts4.drop (j + 1)) := ⟨ts4[j], List.getElem?_eq_getElem hjl, List.drop_eq_getElem_cons hjl⟩
          have HDI : Hid (DrI wr w.heap.size (PMb w1.heap.size d4 d5 (.slice ova tn ovc) (.slice wva tn wvc)) (orb d4 ++ orb d5) t) := HX.out.dr.it t (by rw [HTJ.out.2]; exact List.mem_cons_self ..)
          obtain ⟨oa, on, HOV⟩ : ∃ oa on, Hid (t.1 = .slice oa on on ∧ OV wr w.heap.size oa on t.2.2) := HDI.out.ov
          obtain ⟨ba, bn, bc, hba⟩ : ∃ ba bn bc, t.2.1 = .slice ba bn bc := by obtain ⟨a, c, e, _⟩ := HDI.out.vw; exact ⟨a, _, c, e⟩
          obtain ⟨gO, cO, eO, rO, b1O, b2O⟩ := row_cell (j := j) (x := t.1) HX.out.ps.out (by rw [List.getElem?_map, HTJ.out.1]; rfl)
          obtain ⟨gW, cW, eW, rW, b1W, b2W⟩ := row_cell (j := j) (x := t.2.1) HX.out.ps.was (by rw [List.getElem?_map, HTJ.out.1]; rfl)
          have eO' : ova = some ⟨gO, 0, none⟩ ∧ ovc = cO := by injection eO with q1 q2 q3; exact ⟨q1, q3⟩
          have eW' : wva = some ⟨gW, 0, none⟩ ∧ wvc = cW := by injection eW with q1 q2 q3; exact ⟨q1, q3⟩
          obtain ⟨rfl, rfl⟩ := eO'
          obtain ⟨rfl, rfl⟩ := eW'
          rw [HOV.out.1] at rO
          rw [hba] at rW
          have hcO : tn ≤ ovc := by rw [HTN.out]; exact b1O
          have hcW : tn ≤ wvc := by rw [HTN.out]; exact b1W
          clear eO eW b1O b1W
          have H13 : Hid (∀ q, Calls Tryd.prog 13 #[.slice oa on on, .slice ba bn bc] (wr.drewN q) fun e w' => e = .returned (.bool true) ∧ ∃ m, w' = (wr.drewN q).drewN m) := fun q => by
            refine (same_any _ _ t.2.2 t.2.2 (wr.drewN q) (HOV.out.2.view.kept fun b hb => rfl) ((by rw [← hba]; exact HDI.out.vw : View wr (.slice ba bn bc) t.2.2).kept fun b hb => rfl)).mono ?_
            rintro e w' ⟨q1, q2⟩
            exact ⟨by rw [q1]; simp, q2⟩
          go_upto_region 23 with fail
          go_quiet ((go_at_call 13; exact Calls.quiet_of (H13.out _)))
          have HXq : Hid (FLp w (wr.drewN nq) w1.heap.size d4 d5 (.slice (some ⟨gO, 0, none⟩) tn ovc) (.slice (some ⟨gW, 0, none⟩) tn wvc) ts4 left4 j) := by
            have bq : Below wr.heap.size wr (wr.drewN nq) := below_drewN wr nq
            exact ⟨HX.out.bel.trans (bq.mono HX.out.bel.size), HX.out.ps.below bq, HX.out.dr.fr (l := []) (below_fr bq _) (fun b hb => by cases hb) (fun b hb => .inl hb) (fun b hb => .inl hb)⟩
          have HOq : Hid (OV (wr.drewN nq) w.heap.size oa on t.2.2) := HOV.out.2.keep (fun b hb => rfl) (Nat.le_refl _)
          have k4q : (wr.drewN nq).cell? ⟨w1.heap.size, 4, none⟩ = some (.slice (some ⟨gO, 0, none⟩) tn ovc) := k4
          have rOq : (wr.drewN nq).cell? ⟨gO, j, none⟩ = some (.slice oa on on) := rO
          clear H13 rO rW k4 k5 HX HDI
          generalize wr.drewN nq = wy at HXq HOq k4q rOq ⊢
          have H21 : Hid (Calls Tryd.prog 21 #[.slice oa on on] wy fun e w' => Hid (e = .returned (.tuple #[]) ∧ Fr wy w' (vblk (.slice oa on on)))) := spoil_ov wy w.heap.size oa on t.2.2 HOq.out
          go_wp2_with (go_at_call 21; refine H21.out.mono ?_)
          intro e9 w9 hh
          obtain ⟨rfl, fr9⟩ := hh.out
          have HX9 : Hid (FLp w w9 w1.heap.size d4 d5 (.slice (some ⟨gO, 0, none⟩) tn ovc) (.slice (some ⟨gW, 0, none⟩) tn wvc) ts4 left4 (j + 1)) := by
            have q := spoilt_step (t := t) (tl := ts4.drop (j + 1)) HXq.out.ps (by rw [← HTJ.out.2]; exact HXq.out.dr) (by rw [HOV.out.1]; exact fr9)
            exact ⟨HXq.out.bel.trans q.2.2, q.1, q.2.1⟩
          clear hh fr9 H21 k4q rOq HOq HXq
          go_wp2
          go_roundw
          case rel => exact ⟨j + 1, by go_num, by omega, HX9⟩
          case measure => simp [intOf]; omega
        · have H20 : Hid (Calls Tryd.prog 20 #[.pointer (some ⟨w1.heap.size, 0, none⟩), .agg #[.int .i64 1, .int .i64 0, .int .i64 3, .slice none 0 0, .slice none 0 0]] wr fun e w' => Hid (StepP False wr w' e w.heap.size w1.heap.size ts4.length)) := plays_draw0 False w.heap.size w1.heap.size d4 d5 _ _ ts4 left4 0 3 none none 0 0 0 0 [] [] [] wr ⟨HX.out.ps, fun p => p.elim⟩ hT4 (HNil.out wr HX.out.bel) rfl (by show _ ≤ _; simp) (by omega) rfl (by omega) (by rw [← HTN.out]; omega) (by decide)
          go_wp2_with (go_at_call 20; refine H20.out.mono ?_)
          intro e9 w9 hh
          obtain ⟨rfl, bel9, hx9⟩ := hh.out
          obtain ⟨d6, d7, ov6, wv6, ts6, left6, HP9⟩ : ∃ d0 d1 ov wv ts left, Hid (PSD False w9 w.heap.size w1.heap.size d0 d1 ov wv ts left ∧ ts.length ≤ ts4.length + 1) := hx9
          have HB9 : Hid (Below w.heap.size w w9) := HX.out.bel.trans bel9
          clear hh bel9 H20 k4
          have H20 : Hid (Calls Tryd.prog 20 #[.pointer (some ⟨w1.heap.size, 0, none⟩), .agg #[.int .i64 1, .int .i64 1, .int .i64 3, .slice none 0 0, .slice none 0 0]] w9 fun e w' => Hid (StepP False w9 w' e w.heap.size w1.heap.size ts6.length)) := plays_draw1 False w.heap.size w1.heap.size d6 d7 ov6 wv6 ts6 left6 1 3 none none 0 0 0 0 [] [] [] w9 HP9.out.1 hT4 (HNil.out w9 HB9.out) rfl (by show _ ≤ _; simp) (by omega) rfl (by omega) (by have := HP9.out.2; rw [← HTN.out] at this; omega) (.inl (by decide))
          go_wp2_with (go_at_call 20; refine H20.out.mono ?_)
          intro e10 w10 hh
          obtain ⟨rfl, bel10, hx10⟩ := hh.out
          have HB10 : Hid (Below w.heap.size w w10) := HB9.out.trans bel10
          clear hh bel10 hx10 H20
          go_wp2
          go_ret
          exact ⟨rfl, HB10.out⟩
    by_cases h2 : (k : Int) < 30
    case neg =>
      have dd1 : decide ((k : Int) < (sn : Nat)) = true := by simp; omega
      have dd2 : decide ((k : Int) < 30) = false := by simp; omega
      obtain ⟨d0, d1, ov, wv, ts, left, HP6⟩ : ∃ d0 d1 ov wv ts left, Hid (PSD True wr w.heap.size w1.heap.size d0 d1 ov wv ts left ∧ ts.length ≤ k) := HR.out.2
      have HB6 : Hid (Below w.heap.size w wr) := HR.out.1
      have HNil : Hid (∀ u, Below w.heap.size w u → ∀ v, Below w.heap.size u v → PV v (.slice none 0 0) [] [] ∧ View v (.slice none 0 0) [] ∧ Tables v ∧ RTab v) := fun u hu v hv => ⟨⟨none, 0, rfl, Nat.le_refl _, by simp [maxLen], rfl, fun i x hx => by simp at hx, .inl rfl⟩, ⟨none, 0, rfl, Nat.le_refl _, Nat.zero_le _, fun _ => rfl, .inl rfl⟩, HTR.out v (hu.trans hv)⟩
      have H20 : Hid (Calls Tryd.prog 20 #[.pointer (some ⟨w1.heap.size, 0, none⟩), .agg #[.int .i64 3, .int .i64 0, .int .i64 0, .slice none 0 0, .slice none 0 0]] wr fun e w' => Hid (StepP True wr w' e w.heap.size w1.heap.size ts.length)) := plays_any True w.heap.size w1.heap.size d0 d1 ov wv ts left 0 0 none none 0 0 0 0 [] [] [] wr HP6.out.1 hT4 (HNil.out wr HB6.out) rfl (by show _ ≤ _; simp) (by omega) rfl (by omega) (by have := HP6.out.2; omega) 3
      clear HR
      go_upto_region 18 with fail
      go_wp2_with (go_at_call 20; refine H20.out.mono ?_)
      intro e7 w7 hh
      obtain ⟨rfl, bel7, hx7⟩ := hh.out
      obtain ⟨d2, d3, ov2, wv2, ts2, left2, HP7⟩ : ∃ d0 d1 ov wv ts left, Hid (PSD True w7 w.heap.size w1.heap.size d0 d1 ov wv ts left ∧ ts.length ≤ k + 1) := by
        obtain ⟨d0', d1', ov', wv', ts', left', q1, q2⟩ := hx7
        exact ⟨d0', d1', ov', wv', ts', left', q1, by have := HP6.out.2; omega⟩
      have HB7 : Hid (Below w.heap.size w w7) := HB6.out.trans bel7
      clear hh bel7 hx7 H20 HP6 HB6
      have H20 : Hid (Calls Tryd.prog 20 #[.pointer (some ⟨w1.heap.size, 0, none⟩), .agg #[.int .i64 3, .int .i64 1, .int .i64 0, .slice none 0 0, .slice none 0 0]] w7 fun e w' => Hid (StepP True w7 w' e w.heap.size w1.heap.size ts2.length)) := plays_any True w.heap.size w1.heap.size d2 d3 ov2 wv2 ts2 left2 1 0 none none 0 0 0 0 [] [] [] w7 HP7.out.1 hT4 (HNil.out w7 HB7.out) rfl (by show _ ≤ _; simp) (by omega) rfl (by omega) (by have := HP7.out.2; omega) 3
      go_upto_region 20 with (go_at_call 20; refine H20.out.mono ?_; intro e8 w8 hh; obtain ⟨rfl, bel8, hx8⟩ := hh.out)
      obtain ⟨d4, d5, ov4, wv4, ts4, left4, HP8⟩ : ∃ d0 d1 ov wv ts left, Hid (PSD True w8 w.heap.size w1.heap.size d0 d1 ov wv ts left ∧ ts.length ≤ k + 2) := by
        obtain ⟨d0', d1', ov', wv', ts', left', q1, q2⟩ := hx8
        exact ⟨d0', d1', ov', wv', ts', left', q1, by have := HP7.out.2; omega⟩
      have HB8 : Hid (Below w.heap.size w w8) := HB7.out.trans bel8
      clear hh bel8 hx8 H20 HP7 HB7
      obtain ⟨ova, ovc, hov⟩ := owns_sl22 HP8.out.1.ps.out
      obtain ⟨wva, wvc, hwv⟩ := owns_sl22 HP8.out.1.ps.was
      obtain ⟨tn, HTN⟩ : ∃ tn, Hid (tn = ts4.length) := ⟨_, rfl⟩
      rw [← HTN.out] at hov hwv
      subst hov hwv
      have HX0 : Hid (FLp w w8 w1.heap.size d4 d5 (.slice ova tn ovc) (.slice wva tn wvc) ts4 left4 0) := ⟨HB8.out, HP8.out.1.ps, HP8.out.1.dr trivial⟩
      have htn : tn ≤ 40 := by rw [HTN.out]; have := HP8.out.2; omega
      clear HP8 HB8
      go_wp2
      go_loopw [12] (fun vi wx => ∃ j : Nat, vi = .int .i64 (j : Nat) ∧ j ≤ tn ∧ Hid (FLp w wx w1.heap.size d4 d5 (.slice ova tn ovc) (.slice wva tn wvc) ts4 left4 j)) (fun vi _ => tn - (intOf vi).toNat)
      case atStart => exact ⟨0, rfl, by omega, HX0⟩
      case round =>
        obtain ⟨j, rfl, hj, HX⟩ := hrel
        clear HX0
        have k4 : wr.cell? ⟨w1.heap.size, 4, none⟩ = some (.slice ova tn ovc) := HX.out.ps.co
        by_cases hjt : (j : Int) < (tn : Nat)
        · have k5 : wr.cell? ⟨w1.heap.size, 5, none⟩ = some (.slice wva tn wvc) := HX.out.ps.cw
          have hjl : j < ts4.length := by rw [← HTN.out]; omega
          obtain ⟨t, HTJ⟩ : ∃ t, Hid (ts4[j]? = some t ∧ ts4.drop j = t :: ts4.drop (j + 1)) := ⟨ts4[j], List.getElem?_eq_getElem hjl, List.drop_eq_getElem_cons hjl⟩
          have HDI : Hid (DrI wr w.heap.size (PMb w1.heap.size d4 d5 (.slice ova tn ovc) (.slice wva tn wvc)) (orb d4 ++ orb d5) t) := HX.out.dr.it t (by rw [HTJ.out.2]; exact List.mem_cons_self ..)
          obtain ⟨oa, on, HOV⟩ : ∃ oa on, Hid (t.1 = .slice oa on on ∧ OV wr w.heap.size oa on t.2.2) := HDI.out.ov
          obtain ⟨ba, bn, bc, hba⟩ : ∃ ba bn bc, t.2.1 = .slice ba bn bc := by obtain ⟨a, c, e, _⟩ := HDI.out.vw; exact ⟨a, _, c, e⟩
          obtain ⟨gO, cO, eO, rO, b1O, b2O⟩ := row_cell (j := j) (x := t.1) HX.out.ps.out (by rw [List.getElem?_map, HTJ.out.1]; rfl)
          obtain ⟨gW, cW, eW, rW, b1W, b2W⟩ := row_cell (j := j) (x := t.2.1) HX.out.ps.was (by rw [List.getElem?_map, HTJ.out.1]; rfl)
          have eO' : ova = some ⟨gO, 0, none⟩ ∧ ovc = cO := by injection eO with q1 q2 q3; exact ⟨q1, q3⟩
          have eW' : wva = some ⟨gW, 0, none⟩ ∧ wvc = cW := by injection eW with q1 q2 q3; exact ⟨q1, q3⟩
          obtain ⟨rfl, rfl⟩ := eO'
          obtain ⟨rfl, rfl⟩ := eW'
          rw [HOV.out.1] at rO
          rw [hba] at rW
          have hcO : tn ≤ ovc := by rw [HTN.out]; exact b1O
          have hcW : tn ≤ wvc := by rw [HTN.out]; exact b1W
          clear eO eW b1O b1W
          have H13 : Hid (∀ q, Calls Tryd.prog 13 #[.slice oa on on, .slice ba bn bc] (wr.drewN q) fun e w' => e = .returned (.bool true) ∧ ∃ m, w' = (wr.drewN q).drewN m) := fun q => by
            refine (same_any _ _ t.2.2 t.2.2 (wr.drewN q) (HOV.out.2.view.kept fun b hb => rfl) ((by rw [← hba]; exact HDI.out.vw : View wr (.slice ba bn bc) t.2.2).kept fun b hb => rfl)).mono ?_
            rintro e w' ⟨q1, q2⟩
            exact ⟨by rw [q1]; simp, q2⟩
          go_upto_region 23 with fail
          go_quiet ((go_at_call 13; exact Calls.quiet_of (H13.out _)))
          have HXq : Hid (FLp w (wr.drewN nq) w1.heap.size d4 d5 (.slice (some ⟨gO, 0, none⟩) tn ovc) (.slice (some ⟨gW, 0, none⟩) tn wvc) ts4 left4 j) := by
            have bq : Below wr.heap.size wr (wr.drewN nq) := below_drewN wr nq
            exact ⟨HX.out.bel.trans (bq.mono HX.out.bel.size), HX.out.ps.below bq, HX.out.dr.fr (l := []) (below_fr bq _) (fun b hb => by cases hb) (fun b hb => .inl hb) (fun b hb => .inl hb)⟩
          have HOq : Hid (OV (wr.drewN nq) w.heap.size oa on t.2.2) := HOV.out.2.keep (fun b hb => rfl) (Nat.le_refl _)
          have k4q : (wr.drewN nq).cell? ⟨w1.heap.size, 4, none⟩ = some (.slice (some ⟨gO, 0, none⟩) tn ovc) := k4
          have rOq : (wr.drewN nq).cell? ⟨gO, j, none⟩ = some (.slice oa on on) := rO
          clear H13 rO rW k4 k5 HX HDI
          generalize wr.drewN nq = wy at HXq HOq k4q rOq ⊢
          have H21 : Hid (Calls Tryd.prog 21 #[.slice oa on on] wy fun e w' => Hid (e = .returned (.tuple #[]) ∧ Fr wy w' (vblk (.slice oa on on)))) := spoil_ov wy w.heap.size oa on t.2.2 HOq.out
          go_wp2_with (go_at_call 21; refine H21.out.mono ?_)
          intro e9 w9 hh
          obtain ⟨rfl, fr9⟩ := hh.out
          have HX9 : Hid (FLp w w9 w1.heap.size d4 d5 (.slice (some ⟨gO, 0, none⟩) tn ovc) (.slice (some ⟨gW, 0, none⟩) tn wvc) ts4 left4 (j + 1)) := by
            have q := spoilt_step (t := t) (tl := ts4.drop (j + 1)) HXq.out.ps (by rw [← HTJ.out.2]; exact HXq.out.dr) (by rw [HOV.out.1]; exact fr9)
            exact ⟨HXq.out.bel.trans q.2.2, q.1, q.2.1⟩
          clear hh fr9 H21 k4q rOq HOq HXq
          go_wp2
          go_roundw
          case rel => exact ⟨j + 1, by go_num, by omega, HX9⟩
          case measure => simp [intOf]; omega
        · have H20 : Hid (Calls Tryd.prog 20 #[.pointer (some ⟨w1.heap.size, 0, none⟩), .agg #[.int .i64 1, .int .i64 0, .int .i64 3, .slice none 0 0, .slice none 0 0]] wr fun e w' => Hid (StepP False wr w' e w.heap.size w1.heap.size ts4.length)) := plays_draw0 False w.heap.size w1.heap.size d4 d5 _ _ ts4 left4 0 3 none none 0 0 0 0 [] [] [] wr ⟨HX.out.ps, fun p => p.elim⟩ hT4 (HNil.out wr HX.out.bel) rfl (by show _ ≤ _; simp) (by omega) rfl (by omega) (by rw [← HTN.out]; omega) (by decide)
          go_wp2_with (go_at_call 20; refine H20.out.mono ?_)
          intro e9 w9 hh
          obtain ⟨rfl, bel9, hx9⟩ := hh.out
          obtain ⟨d6, d7, ov6, wv6, ts6, left6, HP9⟩ : ∃ d0 d1 ov wv ts left, Hid (PSD False w9 w.heap.size w1.heap.size d0 d1 ov wv ts left ∧ ts.length ≤ ts4.length + 1) := hx9
          have HB9 : Hid (Below w.heap.size w w9) := HX.out.bel.trans bel9
          clear hh bel9 H20 k4
          have H20 : Hid (Calls Tryd.prog 20 #[.pointer (some ⟨w1.heap.size, 0, none⟩), .agg #[.int .i64 1, .int .i64 1, .int .i64 3, .slice none 0 0, .slice none 0 0]] w9 fun e w' => Hid (StepP False w9 w' e w.heap.size w1.heap.size ts6.length)) := plays_draw1 False w.heap.size w1.heap.size d6 d7 ov6 wv6 ts6 left6 1 3 none none 0 0 0 0 [] [] [] w9 HP9.out.1 hT4 (HNil.out w9 HB9.out) rfl (by show _ ≤ _; simp) (by omega) rfl (by omega) (by have := HP9.out.2; rw [← HTN.out] at this; omega) (.inl (by decide))
          go_wp2_with (go_at_call 20; refine H20.out.mono ?_)
          intro e10 w10 hh
          obtain ⟨rfl, bel10, hx10⟩ := hh.out
          have HB10 : Hid (Below w.heap.size w w10) := HB9.out.trans bel10
          clear hh bel10 hx10 H20
          go_wp2
          go_ret
          exact ⟨rfl, HB10.out⟩
    obtain ⟨b, o, hsa, kd, at_, N1, oa, on, oc, OE, xv, xs, yss, HO0⟩ := HSc.out k (by omega)
    subst hsa
    have HO : Hid (OpAt w b (o + k * 5) kd at_ N1 oa on oc OE xv xs yss) := HO0
    clear HO0
    have HKb : Hid (∀ j v, w.cell? ⟨b, j, none⟩ = some v → wr.cell? ⟨b, j, none⟩ = some v) := fun j v hv => (World.cell?_of_block (a := ⟨b, j, none⟩) (HR.out.1.block b (lt_of_cell hv))).trans hv
    have e0 := HKb.out _ _ HO.out.c0
    have e1 := HKb.out _ _ HO.out.c1
    have e2 := HKb.out _ _ HO.out.c2
    have e3 := HKb.out _ _ HO.out.c3
    have e4 := HKb.out _ _ HO.out.c4
    clear HKb
    have hxv : ∃ xa xn xc, xv = .slice xa xn xc := by
      rcases HO.out.nl with q | ⟨ad, m, c, q⟩
      · exact ⟨_, _, _, q⟩
      · exact ⟨_, _, _, q⟩
    obtain ⟨xa, xn, xc, rfl⟩ := hxv
    obtain ⟨tot, HTot⟩ : ∃ t, Hid (t = yss.flatten.length) := ⟨_, rfl⟩
    have HXN : Hid (xs.length = xn ∧ yss.length = xn) := by
      obtain ⟨_, _, q, _, _, q3, _⟩ := HO.out.pv
      injection q with _ q _
      exact ⟨q.symm, by rw [q, q3]⟩
    have htot : tot ≤ 1048576 := by rw [HTot.out]; exact HO.out.few.2
    have hon : on ≤ 1048576 := HO.out.fewE
    have hxn1 : xn ≤ 1048576 := by have := HO.out.few.1; have := HXN.out.2; omega
    have H15 : Hid (∀ q, Calls Tryd.prog 15 #[.slice xa xn xc] (wr.drewN q) fun e w' => e = .returned (.int .i64 (tot : Nat)) ∧ w' = wr.drewN q) := fun q => by
      have r := bytes_ok wr.heap.size (.slice xa xn xc) yss (wr.drewN q) (((HO.out.pv.kept fun b hb => HR.out.1.block b hb : PV wr _ _ _).kept fun b hb => rfl : PV (wr.drewN q) _ _ _).parts wr.heap.size (Nat.le_refl _)) (by show _ ≤ _; have := HO.out.few.2; omega)
      rw [← HTot.out] at r
      exact r
    go_upto_region 13 with fail
    go_quiet ((go_at_call 15; exact Calls.quiet_of_same (H15.out _)))
    have HR6 : Hid (St w (wr.drewN nq) w1.heap.size k) := by
      have bq : Below wr.heap.size wr (wr.drewN nq) := below_drewN wr nq
      obtain ⟨q1, d0, d1, ov, wv, ts, left, q2, q3⟩ := HR.out
      exact ⟨q1.trans (bq.mono q1.size), d0, d1, ov, wv, ts, left, q2.below bq, q3⟩
    have g0 : (wr.drewN nq).cell? ⟨b, o + k * 5, none⟩ = some (.int .i64 kd) := e0
    have g1 : (wr.drewN nq).cell? ⟨b, o + k * 5 + 1, none⟩ = some (.int .i64 at_) := e1
    have g2 : (wr.drewN nq).cell? ⟨b, o + k * 5 + 2, none⟩ = some (.int .i64 N1) := e2
    have g3 : (wr.drewN nq).cell? ⟨b, o + k * 5 + 3, none⟩ = some (.slice oa on oc) := e3
    have g4 : (wr.drewN nq).cell? ⟨b, o + k * 5 + 4, none⟩ = some (.slice xa xn xc) := e4
    clear e0 e1 e2 e3 e4 H15 HR
    generalize wr.drewN nq = w6 at HR6 g0 g1 g2 g3 g4 ⊢
    by_cases ht : (f : Int) < (tot : Nat) + (on : Nat)
    · go_wp2
      go_roundw
      case rel => exact ⟨f, k + 1, rfl, by go_num, hf, by omega, by obtain ⟨q1, d0, d1, ov, wv, ts, left, q2, q3⟩ := HR6.out; exact ⟨q1, d0, d1, ov, wv, ts, left, q2, by omega⟩⟩
      case measure => simp [intOf]; omega
    · obtain ⟨d0, d1, ov, wv, ts, left, HP6⟩ : ∃ d0 d1 ov wv ts left, Hid (PSD True w6 w.heap.size w1.heap.size d0 d1 ov wv ts left ∧ ts.length ≤ k) := HR6.out.2
      have HB6 : Hid (Below w.heap.size w w6) := HR6.out.1
      have H20 : Hid (Calls Tryd.prog 20 #[.pointer (some ⟨w1.heap.size, 0, none⟩), .agg #[.int .i64 kd, .int .i64 at_, .int .i64 N1, .slice oa on oc, .slice xa xn xc]] w6 fun e w' => Hid (StepP True w6 w' e w.heap.size w1.heap.size ts.length)) := plays_any True w.heap.size w1.heap.size d0 d1 ov wv ts left at_ N1 oa xa on oc xn xc OE xs yss w6 HP6.out.1 hT4 (fun u hu => by
          have bu : Below w.heap.size w u := HB6.out.trans hu
          exact ⟨HO.out.pv.kept fun b hb => bu.block b hb, HO.out.vE.kept fun b hb => bu.block b hb, HTR.out u bu⟩) HXN.out.1 (by show _ ≤ _; rw [← HTot.out]; omega) hxn1 HO.out.lE (by omega) (by have := HP6.out.2; omega) kd
      go_wp2_with (go_at_call 20; refine H20.out.mono ?_)
      intro e7 w7 hh
      obtain ⟨rfl, bel7, d0', d1', ov', wv', ts', left', ps7, len7⟩ := hh.out
      have HS7 : Hid (St w w7 w1.heap.size (k + 1)) := ⟨HB6.out.trans bel7, d0', d1', ov', wv', ts', left', ps7, by have := HP6.out.2; omega⟩
      clear hh bel7 ps7 len7 H20 g0 g1 g2 g3 g4 HP6 HB6 HR6
      go_wp2
      go_roundw
      case rel => exact ⟨f - (tot + on), k + 1, by congr 1; omega, by go_num, by omega, by omega, HS7⟩
      case measure => simp [intOf]; omega
theorem pl_ok (h L : Int) (ea na pa sa : Option Addr) (en ec nn nc pn pc sn sc : Nat) (E N P : List Int) (w : World) (hT : Tables w) (hR : RTab w) (he : View w (.slice ea en ec) E) (hel : E.length = en) (hn : View w (.slice na nn nc) N) (hnl : N.length = nn) (hp : View w (.slice pa pn pc) P) (hpl : P.length = pn) (HSc : ScAt w sa sn) (hsn : sn ≤ sc) (hsc : sc ≤ 9223372036854775807) (b1 : en ≤ 140737488355328) (b2 : nn ≤ 140737488355328) (b3 : pn ≤ 140737488355328) :
    Calls Tryd.prog 7 #[.agg #[.int .i64 h, .int .i64 L, .slice ea en ec, .slice na nn nc, .slice pa pn pc], .slice sa sn sc] w fun e w' => e = .returned (.bool true) ∧ Below w.heap.size w w' := by
  by_cases hs : en + nn + pn ≤ 262144
  · exact (pl_main h L ea na pa sa en ec nn nc pn pc sn sc E N P w hT hR he hel hn hnl hp hpl HSc hsn hsc hs).mono fun e w' hh => hh.out
  · exact pl_long h L ea na pa en ec nn nc pn pc _ w b1 b2 b3 (by omega)
end Go.Proofs.YtkeklmkaleomkaaDoor
namespace Go.Proofs.YtkeklmkaleomkaaDoor
open Go.ChangeShapes Go.WideShapes Go.ChangeAt Go.RowKit

theorem own : ownKnob Tryd.prog.godebug = none := by kernel_rfl
theorem laidOut : laidOutB Tryd.prog = true := by kernel_rfl
theorem cells5 : Tryd.prog.cellsOf 5 = 1 := by kernel_rfl
theorem bytes5 : Tryd.prog.bytesOf 5 = 1 := by kernel_rfl

/-- What came in as a list of bytes. -/
theorem open_bytes {H : Type} {enc : TypeId × Value → H} {W : World} {a : Option Addr} {len cap : Nat} {d : DataW H} {p : List MemPlace}
    (h : DataW.Trod enc Tryd.prog W 0 (fun _ => true) true 22 (.slice a len cap) d p) :
    ∃ xs : List Int, xs.length = len ∧ AllBytes xs ∧ View W (.slice a len cap) xs ∧ (d = .nil ∧ xs = [] ∨ ∃ sp, d = .slice (lits .u8 xs) sp) := by
  obtain ⟨fuel, hf⟩ := h
  rcases open_ints Tryd.underlying22 Tryd.underlying5 cells5 hf with ⟨hcs, hx⟩ | ⟨x, l, c, zs, hcs, _, hl, hm, hz, hx, hcell, hwz⟩
  · simp [Value.cells] at hcs
    obtain ⟨rfl, rfl, rfl⟩ := hcs
    simp only [Prod.mk.injEq] at hx
    refine ⟨[], rfl, fun i => by simp, ⟨none, 0, rfl, Nat.le_refl _, by simp, fun _ => rfl, .inl rfl⟩, .inl ⟨hx.1, rfl⟩⟩
  · simp [Value.cells] at hcs
    obtain ⟨rfl, rfl, rfl⟩ := hcs
    simp only [Prod.mk.injEq] at hx
    have hzl : zs.length = cap := by simpa using hz
    have hlen : (zs.take len).length = len := by simp; omega
    have hw : ∀ n ∈ zs, 0 ≤ n ∧ n < 256 := by
      intro n hn
      have := hwz n hn
      have h1 : IntKind.u8.min = 0 := rfl
      have h2 : IntKind.u8.max = 255 := rfl
      simp only [Lit.wf, Bool.and_eq_true, decide_eq_true_eq] at this
      omega
    refine ⟨zs.take len, hlen, ?_, ⟨some x, cap, by rw [hlen], by omega, hm, (fun h => by cases h), ?_⟩, .inr ⟨_, hx.1⟩⟩
    · intro i
      rw [List.getD_eq_getElem?_getD]
      cases hg : (zs.take len)[i]? with
      | none => simp
      | some n =>
        have hn : n ∈ zs := List.mem_of_mem_take (List.mem_of_getElem? hg)
        simpa using hw n hn
    · by_cases h0 : len = 0
      · left
        subst h0
        simp
      · right
        obtain ⟨b, off, spot⟩ := x
        have hc0 := hcell 0 (by omega)
        have hspot : spot = none := by simpa [Addr.add] using World.cell?_spot hc0
        subst hspot
        refine ⟨b, off, rfl, fun i hi => ?_⟩
        rw [hlen] at hi
        have := hcell i (by omega)
        rw [Addr.add_lit] at this
        rw [this]
        congr 2
        simp [List.getD_eq_getElem?_getD, hi]

/-- The reach of it. -/
theorem reach_bytes {H : Type} {ts : List TypeId} {ds : List (DataW H)} (hsz : (DataW.weightsEach Tryd.prog ts ds).all (· ≤ reachBytes) = true) {j : Nat} {d : DataW H} {xs : List Int}
    (ht : ts[j]? = some 22) (hd : ds[j]? = some d) (h : d = .nil ∧ xs = [] ∨ ∃ sp, d = .slice (lits .u8 xs) sp) : xs.length ≤ 140737488351232 := by
  rcases h with ⟨_, rfl⟩ | ⟨sp, rfl⟩
  · simp
  · have := sized_slice hsz (j := j) (t := 22) (e := 5) ht hd Tryd.underlying22
    rw [bytes5] at this
    simp only [lits, List.length_map, reachBytes] at this
    omega
end Go.Proofs.YtkeklmkaleomkaaDoor
namespace Go.Proofs.YtkeklmkaleomkaaDoor
open Go.ChangeShapes Go.WideShapes Go.ChangeAt Go.RowKit
set_option linter.unusedVariables false

theorem cells3 : Tryd.prog.cellsOf 3 = 1 := by kernel_rfl
theorem cells22 : Tryd.prog.cellsOf 22 = 1 := by kernel_rfl
theorem array5 {α : Type} {cs : Array α} (h : cs.size = 5) : ∃ c0 c1 c2 c3 c4, cs = #[c0, c1, c2, c3, c4] := by
  obtain ⟨l⟩ := cs
  match l, h with
  | [c0, c1, c2, c3, c4], _ => exact ⟨c0, c1, c2, c3, c4, rfl⟩
set_option maxRecDepth 100000 in
/-- An int's cell. -/
theorem cell_int {H : Type} {enc : TypeId × Value → H} {W : World} {n : Nat} {c : Value} {y : DataW H × List MemPlace} (h : DataW.trod enc Tryd.prog W 0 (fun _ => true) true n 3 [c] = some y) : ∃ z, c = .int .i64 z := by
  obtain ⟨z, hz, _⟩ := DataW.trod_int Tryd.underlying3 h
  exact ⟨z, by simpa using hz⟩
theorem cell_bytes {H : Type} {enc : TypeId × Value → H} {W : World} {n : Nat} {c : Value} {y : DataW H × List MemPlace} (h : DataW.trod enc Tryd.prog W 0 (fun _ => true) true n 22 [c] = some y) : ∃ a l cap xs, c = .slice a l cap ∧ View W (.slice a l cap) xs := by
  have hc : ∃ a l cap, c = .slice a l cap := by
    rcases open_ints Tryd.underlying22 Tryd.underlying5 cells5 h with ⟨hcs, _⟩ | ⟨a, l, cap, zs, hcs, _⟩
    · exact ⟨none, 0, 0, by simpa using hcs⟩
    · exact ⟨some a, l, cap, by simpa using hcs⟩
  obtain ⟨a, l, cap, rfl⟩ := hc
  obtain ⟨xs, _, _, hv, _⟩ := open_bytes (enc := enc) (W := W) (a := a) (len := l) (cap := cap) (d := y.1) (p := y.2) ⟨n, by simpa [Value.cells] using h⟩
  exact ⟨a, l, cap, xs, rfl, hv⟩
/-- The tables, as the row lays them. -/
theorem tables_of {W : World} (h : laidMet Tryd.prog [("coffer/digest.roots", Lib.tabData .u64 rootsL), ("coffer/digest.cubes", Lib.tabData .u64 cubesL)] W) : Tables W := by
  have hr : Lib.TabIs Tryd.prog W "coffer/digest.roots" .u64 rootsL := Lib.tabIs_of_head (g := 2) (t := 92) (e := 85) (n := 16) (by kernel_rfl) (by kernel_rfl) (by kernel_rfl) (by kernel_rfl) (by kernel_rfl) (by kernel_rfl) h
  have hc : Lib.TabIs Tryd.prog W "coffer/digest.cubes" .u64 cubesL := by
    obtain ⟨ps, ⟨g1, t1, cs1, fuel1, p1, q1, _, _, _, _, hrest, _⟩, _⟩ := h
    obtain ⟨g', t', cs, fuel, p, q, hg', ht', hvar, hd, _, _⟩ := hrest
    have hg : Tryd.prog.globalNamed "coffer/digest.cubes" = some 3 := by kernel_rfl
    obtain rfl := Option.some.inj (hg.symm.trans hg')
    have hty : (Tryd.prog.globals[3]?).map (·.type) = some 95 := by kernel_rfl
    obtain rfl := Option.some.inj (hty.symm.trans ht')
    unfold Lib.TabIs
    rw [hvar, ← Lib.cells_of_tab (n := 80) (e := 85) (by kernel_rfl) (by kernel_rfl) (by kernel_rfl) (by kernel_rfl) hd]
  exact ⟨fun t ht => hc.cell (by kernel_rfl) t (by simpa [cubesL] using ht), fun t ht => hr.cell (by kernel_rfl) t (by simpa [rootsL] using ht)⟩
end Go.Proofs.YtkeklmkaleomkaaDoor
namespace Go.Proofs.YtkeklmkaleomkaaDoor
open Go.ChangeShapes Go.WideShapes Go.ChangeAt Go.RowKit
set_option linter.unusedVariables false
/-- A block that holds a table. -/
def refilled2 (zs : List Int) : Obj → Obj
  | .cells _ t frozen => .cells (zs.map (Value.int .u64)).toArray t frozen
  | o => o
/-- The four tables, as the row lays them. -/
theorem tables_of4 {W : World} (h : laidMet Tryd.prog [("coffer/cofferref01.cubes", Lib.tabData .u64 cubesL), ("coffer/cofferref01.squares", Lib.tabData .u64 rootsL), ("coffer/digest.roots", Lib.tabData .u64 rootsL), ("coffer/digest.cubes", Lib.tabData .u64 cubesL)] W) : Tables W ∧ RTab W := by
  have h1 : Lib.TabIs Tryd.prog W "coffer/cofferref01.cubes" .u64 cubesL := Lib.tabIs_of_head (g := 1) (t := 95) (e := 85) (n := 80) (by kernel_rfl) (by kernel_rfl) (by kernel_rfl) (by kernel_rfl) (by kernel_rfl) (by kernel_rfl) h
  obtain ⟨ps, ⟨g1, t1, cs1, fuel1, p1, q1, _, _, _, _, hr2, _⟩, _⟩ := h
  obtain ⟨g2, t2, cs2, fuel2, p2, q2, hg2, ht2, hvar2, hd2, hr3, _⟩ := hr2
  obtain ⟨g3, t3, cs3, fuel3, p3, q3, hg3, ht3, hvar3, hd3, hr4, _⟩ := hr3
  obtain ⟨g4, t4, cs4, fuel4, p4, q4, hg4, ht4, hvar4, hd4, _, _⟩ := hr4
  have h2 : Lib.TabIs Tryd.prog W "coffer/cofferref01.squares" .u64 rootsL := by
    have hg : Tryd.prog.globalNamed "coffer/cofferref01.squares" = some 0 := by kernel_rfl
    obtain rfl := Option.some.inj (hg.symm.trans hg2)
    have hty : (Tryd.prog.globals[0]?).map (·.type) = some 92 := by kernel_rfl
    obtain rfl := Option.some.inj (hty.symm.trans ht2)
    unfold Lib.TabIs
    rw [hvar2, ← Lib.cells_of_tab (n := 16) (e := 85) (by kernel_rfl) (by kernel_rfl) (by kernel_rfl) (by kernel_rfl) hd2]
  have h3 : Lib.TabIs Tryd.prog W "coffer/digest.roots" .u64 rootsL := by
    have hg : Tryd.prog.globalNamed "coffer/digest.roots" = some 2 := by kernel_rfl
    obtain rfl := Option.some.inj (hg.symm.trans hg3)
    have hty : (Tryd.prog.globals[2]?).map (·.type) = some 92 := by kernel_rfl
    obtain rfl := Option.some.inj (hty.symm.trans ht3)
    unfold Lib.TabIs
    rw [hvar3, ← Lib.cells_of_tab (n := 16) (e := 85) (by kernel_rfl) (by kernel_rfl) (by kernel_rfl) (by kernel_rfl) hd3]
  have h4 : Lib.TabIs Tryd.prog W "coffer/digest.cubes" .u64 cubesL := by
    have hg : Tryd.prog.globalNamed "coffer/digest.cubes" = some 3 := by kernel_rfl
    obtain rfl := Option.some.inj (hg.symm.trans hg4)
    have hty : (Tryd.prog.globals[3]?).map (·.type) = some 95 := by kernel_rfl
    obtain rfl := Option.some.inj (hty.symm.trans ht4)
    unfold Lib.TabIs
    rw [hvar4, ← Lib.cells_of_tab (n := 80) (e := 85) (by kernel_rfl) (by kernel_rfl) (by kernel_rfl) (by kernel_rfl) hd4]
  exact ⟨⟨fun t ht => h4.cell (by kernel_rfl) t (by simpa [cubesL] using ht), fun t ht => h3.cell (by kernel_rfl) t (by simpa [rootsL] using ht)⟩, ⟨fun t ht => h1.cell (by kernel_rfl) t (by simpa [cubesL] using ht), fun t ht => h2.cell (by kernel_rfl) t (by simpa [rootsL] using ht)⟩⟩

end Go.Proofs.YtkeklmkaleomkaaDoor
namespace Go.Proofs.YtkeklmkaleomkaaDoor
open Go.ChangeShapes Go.WideShapes Go.ChangeAt Go.RowKit
set_option linter.unusedVariables false

/-- A block that holds a table. -/
def refilledP (zs : List Int) : Obj → Obj
  | .cells _ t frozen => .cells (zs.map (Value.int .u64)).toArray t frozen
  | o => o
theorem cells24s : Tryd.prog.cellsOf 24 = 5 := by kernel_rfl
theorem cell_bytes2s {H : Type} {enc : TypeId × Value → H} {W : World} {n : Nat} {c : Value} {y : DataW H × List MemPlace} (h : DataW.trod enc Tryd.prog W 0 (fun _ => true) true n 22 [c] = some y) : ∃ a l cap xs, c = .slice a l cap ∧ View W (.slice a l cap) xs ∧ xs.length = l ∧ (y.1 = .nil ∧ xs = [] ∨ ∃ sp, y.1 = .slice (lits .u8 xs) sp) := by
  have hc : ∃ a l cap, c = .slice a l cap := by
    rcases open_ints Tryd.underlying22 Tryd.underlying5 cells5 h with ⟨hcs, _⟩ | ⟨a, l, cap, zs, hcs, _⟩
    · exact ⟨none, 0, 0, by simpa using hcs⟩
    · exact ⟨some a, l, cap, by simpa using hcs⟩
  obtain ⟨a, l, cap, rfl⟩ := hc
  obtain ⟨xs, hl, hb, hv, hd⟩ := open_bytes (enc := enc) (W := W) (a := a) (len := l) (cap := cap) (d := y.1) (p := y.2) ⟨n, by simpa [Value.cells] using h⟩
  exact ⟨a, l, cap, xs, rfl, hv, hl, hd⟩
set_option maxRecDepth 100000 in
/-- A Seed that came in. -/
theorem open_seed {H : Type} {enc : TypeId × Value → H} {W : World} {r : Reach} {b0 : Nat} {v : Value} {d : DataW H} {p : List MemPlace} (hv : Value.okWide Tryd.prog W r b0 24 v) (h : DataW.Trod enc Tryd.prog W 0 (fun _ => true) true 24 v d p) :
    ∃ (hh L : Int) (ea na pa : Option Addr) (en ec nn nc pn pc : Nat) (E N P : List Int), v = .agg #[.int .i64 hh, .int .i64 L, .slice ea en ec, .slice na nn nc, .slice pa pn pc] ∧ View W (.slice ea en ec) E ∧ E.length = en ∧ View W (.slice na nn nc) N ∧ N.length = nn ∧ View W (.slice pa pn pc) P ∧ P.length = pn := by
  obtain ⟨cs, rfl, hsz⟩ := okWide_struct Tryd.underlying24 hv
  obtain ⟨c0, c1, c2, c3, c4, rfl⟩ := array5 (hsz.trans cells24s)
  obtain ⟨fuel, hf⟩ := h
  obtain ⟨xs, n, _, hx, _, hlen, hfs⟩ := DataW.trod_struct Tryd.underlying24 hf
  match xs, hlen with
  | [y0, y1, y2, y3, y4], _ =>
    have h0 := hfs 0 _ rfl
    have h1 := hfs 1 _ rfl
    have h2 := hfs 2 _ rfl
    have h3 := hfs 3 _ rfl
    have h4 := hfs 4 _ rfl
    simp [Value.cells, cells3, cells22] at h0 h1 h2 h3 h4
    obtain ⟨hh, rfl⟩ := cell_int h0
    obtain ⟨L, rfl⟩ := cell_int h1
    obtain ⟨ea, en, ec, E, rfl, vE, lE, dE⟩ := cell_bytes2s h2
    obtain ⟨na, nn, nc, N, rfl, vN, lN, dN⟩ := cell_bytes2s h3
    obtain ⟨pa, pn, pc, P, rfl, vP, lP, dP⟩ := cell_bytes2s h4
    exact ⟨hh, L, ea, na, pa, en, ec, nn, nc, pn, pc, E, N, P, rfl, vE, lE, vN, lN, vP, lP⟩
end Go.Proofs.YtkeklmkaleomkaaDoor
namespace Go.Proofs.YtkeklmkaleomkaaDoor
open Go.Deep Go.ChangeShapes Go.WideShapes Go.ChangeAt Go.RowKit
set_option linter.unusedVariables false
theorem und37 : Tryd.prog.underlying 37 = some (.slice 22) := by kernel_rfl
theorem bulk_pos {H : Type} : (d : DataW H) → 1 ≤ Rows.uptoBulk d
  | .lit l => by cases l <;> simp [Rows.uptoBulk]
  | .nil | .ptr _ | .slice _ _ | .agg _ | .iface _ _ | .map _ | .held _ => by simp [Rows.uptoBulk]
theorem bulk_lits {H : Type} (ys : List Int) : Rows.uptoBulkAll (H := H) (lits .u8 ys) = ys.length := by
  induction ys with
  | nil => rfl
  | cons y ys ih =>
    have : lits (H := H) .u8 (y :: ys) = .lit (.int .u8 y) :: lits .u8 ys := rfl
    rw [this]
    simp only [Rows.uptoBulkAll, Rows.uptoBulk, ih, List.length_cons]
    omega
theorem bulk_flat {H : Type} (Y : Nat → List Int) (D : Nat → DataW H) (l : List Nat) (h : ∀ i, i ∈ l → (Y i).length ≤ Rows.uptoBulk (D i)) : l.length ≤ Rows.uptoBulkAll (l.map D) ∧ (l.map Y).flatten.length ≤ Rows.uptoBulkAll (l.map D) := by
  induction l with
  | nil => exact ⟨Nat.le_refl _, Nat.le_refl _⟩
  | cons x l ih =>
    obtain ⟨h1, h2⟩ := ih fun i hi => h i (List.mem_cons_of_mem _ hi)
    have h3 := h x (List.mem_cons_self ..)
    have h4 := bulk_pos (D x)
    simp only [List.map_cons, Rows.uptoBulkAll, List.flatten_cons, List.length_append, List.length_cons]
    omega
theorem one_bytes {H : Type} {enc : TypeId × Value → H} {W : World} {n : Nat} {c : Value} {d : DataW H} {p : List MemPlace} (h : DataW.trod enc Tryd.prog W 0 (fun _ => true) true n 22 [c] = some (d, p)) : ∃ xs, View W c xs ∧ xs.length ≤ Rows.uptoBulk d := by
  have hc : ∃ a l cap, c = .slice a l cap := by
    rcases open_ints Tryd.underlying22 Tryd.underlying5 cells5 h with ⟨hcs, _⟩ | ⟨a, l, cap, zs, hcs, _⟩
    · exact ⟨none, 0, 0, by simpa using hcs⟩
    · exact ⟨some a, l, cap, by simpa using hcs⟩
  obtain ⟨a, l, cap, rfl⟩ := hc
  obtain ⟨xs, hl, hb, hv, hd⟩ := open_bytes (enc := enc) (W := W) (a := a) (len := l) (cap := cap) (d := d) (p := p) ⟨n, by simpa [Value.cells] using h⟩
  refine ⟨xs, hv, ?_⟩
  rcases hd with ⟨_, rfl⟩ | ⟨sp, rfl⟩
  · simp
  · simp only [Rows.uptoBulk, bulk_lits]
    omega
/-- What came in as a list of lists of bytes. -/
theorem open_parts {H : Type} {enc : TypeId × Value → H} {W : World} {a : Option Addr} {n c : Nat} {d : DataW H} {p : List MemPlace}
    (h : DataW.Trod enc Tryd.prog W 0 (fun _ => true) true 37 (.slice a n c) d p) :
    ∃ xs yss, xs.length = n ∧ PV W (.slice a n c) xs yss ∧ n ≤ Rows.uptoBulk d ∧ yss.flatten.length ≤ Rows.uptoBulk d ∧ ((.slice a n c : Value) = .slice none 0 0 ∨ ∃ ad m c', (.slice a n c : Value) = .slice (some ad) m c') := by
  obtain ⟨fuel, hf⟩ := h
  rcases open_slice1 und37 cells22 hf with ⟨hcs, hx⟩ | ⟨a', len, cap, m, k, V, D, Pl, hcs, hb, hl, hm, hmm, hx, hc⟩
  · simp [Value.cells] at hcs
    obtain ⟨rfl, rfl, rfl⟩ := hcs
    exact ⟨[], [], rfl, ⟨none, 0, rfl, Nat.le_refl _, by simp, rfl, fun i x hx => by simp at hx, .inl rfl⟩, by omega, by simp, .inl rfl⟩
  · simp [Value.cells] at hcs
    obtain ⟨rfl, rfl, rfl⟩ := hcs
    simp only [if_true] at hmm
    have hmm' := hmm.symm
    subst hmm'
    simp only [Prod.mk.injEq] at hx
    obtain ⟨rfl, _⟩ := hx
    obtain ⟨Y, hY⟩ := choose_lt (n := c) (α := List Int) (p := fun i ys => View W (V i) ys ∧ ys.length ≤ Rows.uptoBulk (D i)) fun i hi => one_bytes (hc i hi).2
    have hbf := bulk_flat Y D (List.range n) fun i hi => (hY i (by have := List.mem_range.1 hi; omega)).2
    rw [List.length_range] at hbf
    refine ⟨(List.range n).map V, (List.range n).map Y, by simp, ⟨some a', c, by simp, by simpa using hl, hm, by simp, fun i x hx => ?_, ?_⟩, ?_, ?_, .inr ⟨_, _, _, rfl⟩⟩
    · simp only [List.getElem?_map, Option.map_eq_some_iff] at hx
      obtain ⟨j, hj, rfl⟩ := hx
      obtain ⟨hj1, rfl⟩ := List.getElem?_eq_some_iff.1 hj
      simp only [List.length_range] at hj1
      have := (hY i (by omega)).1
      simpa [List.getD_eq_getElem?_getD, hj1] using this
    · by_cases h0 : n = 0
      · left
        subst h0
        rfl
      · right
        obtain ⟨b, off, spot⟩ := a'
        have hc0 := (hc 0 (by omega)).1
        have hspot : spot = none := by simpa [Addr.add] using World.cell?_spot hc0
        subst hspot
        refine ⟨b, off, rfl, fun i x hx => ?_⟩
        simp only [List.getElem?_map, Option.map_eq_some_iff] at hx
        obtain ⟨j, hj, rfl⟩ := hx
        obtain ⟨hj1, rfl⟩ := List.getElem?_eq_some_iff.1 hj
        simp only [List.length_range] at hj1
        have := (hc i (by omega)).1
        rw [Addr.add_lit] at this
        simpa using this
    · simp only [Rows.uptoBulk]; omega
    · simp only [Rows.uptoBulk]; omega
theorem und36 : Tryd.prog.underlying 36 = some (.slice 39) := by kernel_rfl
theorem cells39 : Tryd.prog.cellsOf 39 = 5 := by kernel_rfl
theorem cells37 : Tryd.prog.cellsOf 37 = 1 := by kernel_rfl
theorem bulk_mem {H : Type} (l : List (DataW H)) (x : DataW H) (h : x ∈ l) : Rows.uptoBulk x ≤ Rows.uptoBulkAll l := by
  induction l with
  | nil => cases h
  | cons y l ih =>
    simp only [Rows.uptoBulkAll]
    rcases List.mem_cons.1 h with rfl | h
    · omega
    · have := ih h
      omega
set_option maxRecDepth 100000 in
/-- A script that came in. -/
theorem open_script {H : Type} {enc : TypeId × Value → H} {W : World} {a : Option Addr} {n c : Nat} {d : DataW H} {p : List MemPlace}
    (h : DataW.Trod enc Tryd.prog W 0 (fun _ => true) true 36 (.slice a n c) d p) (hd : Rows.uptoBulk d ≤ 1048576) : ScAt W a n ∧ n ≤ c ∧ c ≤ 9223372036854775807 := by
  obtain ⟨fuel, hf⟩ := h
  rcases open_slice und36 hf with ⟨hcs, hx⟩ | ⟨a', len, cap, m, k, D, Pl, hcs, hb, hl, hm, hmm, hx, hc⟩
  · simp [Value.cells] at hcs
    obtain ⟨rfl, rfl, rfl⟩ := hcs
    exact ⟨fun i hi => absurd hi (Nat.not_lt_zero _), Nat.le_refl _, by omega⟩
  · simp [Value.cells] at hcs
    obtain ⟨rfl, rfl, rfl⟩ := hcs
    simp only [if_true] at hmm
    subst hmm
    simp only [Prod.mk.injEq] at hx
    obtain ⟨rfl, _⟩ := hx
    refine ⟨fun i hi => ?_, hl, by unfold maxLen at hm; omega⟩
    have hDi : Rows.uptoBulk (D i) ≤ 1048576 := by
      have q := bulk_mem ((List.range n).map D) (D i) (List.mem_map.2 ⟨i, List.mem_range.2 hi, rfl⟩)
      simp only [Rows.uptoBulk] at hd
      omega
    obtain ⟨cs', h1, h2⟩ := hc i (by omega)
    rw [cells39] at h1
    obtain ⟨_, hlen, hcell⟩ := World.cells?_some h1
    obtain ⟨ys, k2, _, hx, _, hyl, hfs⟩ := DataW.trod_struct Tryd.underlying39 h2
    match cs', hlen with
    | [v0, v1, v2, v3, v4], _ =>
      match ys, hyl with
      | [y0, y1, y2, y3, y4], _ =>
        have k0 := hfs 0 _ rfl
        have k1 := hfs 1 _ rfl
        have k2 := hfs 2 _ rfl
        have k3 := hfs 3 _ rfl
        have k4 := hfs 4 _ rfl
        simp [cells3, cells22, cells37] at k0 k1 k2 k3 k4
        obtain ⟨kd, rfl⟩ := cell_int k0
        obtain ⟨at_, rfl⟩ := cell_int k1
        obtain ⟨N1, rfl⟩ := cell_int k2
        obtain ⟨oa, on, oc, OE, rfl, vE, lE, dE⟩ := cell_bytes2s k3
        have hxs : ∃ xa xn xc, v4 = .slice xa xn xc := by
          rcases open_slice1 und37 cells22 k4 with ⟨q, _⟩ | ⟨a2, l2, c2, _, _, _, _, _, q, _⟩
          · exact ⟨_, _, _, by simpa using q⟩
          · exact ⟨_, _, _, by simpa using q⟩
        obtain ⟨xa, xn, xc, rfl⟩ := hxs
        obtain ⟨xs, yss, hxn, hpv, b1, b2, hnl⟩ := open_parts (enc := enc) (W := W) (a := xa) (n := xn) (c := xc) (d := y4.1) (p := y4.2) ⟨_, by simpa [Value.cells] using k4⟩
        have hDe : D i = .agg [y0.1, y1.1, y2.1, y3.1, y4.1] := by simpa using congrArg Prod.fst hx
        have h4 : Rows.uptoBulk y4.1 ≤ 1048576 := by
          rw [hDe] at hDi
          simp only [Rows.uptoBulk, Rows.uptoBulkAll] at hDi
          omega
        have h3 : on ≤ 1048576 := by
          have q : Rows.uptoBulk y3.1 ≤ 1048576 := by
            rw [hDe] at hDi
            simp only [Rows.uptoBulk, Rows.uptoBulkAll] at hDi
            omega
          rw [← lE]
          rcases dE with ⟨_, rfl⟩ | ⟨sp, e⟩
          · simp
          · rw [e] at q
            simp only [Rows.uptoBulk, bulk_lits] at q
            omega
        obtain ⟨b, off, spot⟩ := a'
        have hspot : spot = none := by
          obtain ⟨cs0, z1, _⟩ := hc 0 (by omega)
          rw [cells39] at z1
          obtain ⟨_, zl, zc⟩ := World.cells?_some z1
          have q := zc 0 (by omega)
          have hz : ∃ u, cs0[0]? = some u := ⟨_, List.getElem?_eq_getElem (by omega)⟩
          obtain ⟨u, hz⟩ := hz
          rw [hz] at q
          simpa [Addr.add] using World.cell?_spot q
        subst hspot
        have hq : ∀ j v, [Value.int .i64 kd, .int .i64 at_, .int .i64 N1, .slice oa on oc, .slice xa xn xc][j]? = some v → j < 5 → W.cell? ⟨b, off + i * 5 + j, none⟩ = some v := fun j v hv hj => by
          have q := hcell j hj
          rw [Addr.add_lit, Addr.add_lit, hv] at q
          exact q
        refine ⟨b, off, rfl, kd, at_, N1, oa, on, oc, OE, _, xs, yss, ⟨?_, ?_, ?_, ?_, ?_, vE, lE, hpv, hnl, ⟨?_, by omega⟩, h3⟩⟩
        · exact hq 0 _ rfl (by omega)
        · exact hq 1 _ rfl (by omega)
        · exact hq 2 _ rfl (by omega)
        · exact hq 3 _ rfl (by omega)
        · exact hq 4 _ rfl (by omega)
        · obtain ⟨_, _, _, _, _, e, _⟩ := hpv
          omega
end Go.Proofs.YtkeklmkaleomkaaDoor
