import Derived.Test.YtioggmjocelolacDoorPart12
import Derived.Test.YtioggmjocelolacDoorStr
namespace Go.Proofs.YtioggmjocelolacDoor
open Go.RowKit
set_option linter.unusedVariables false
set_option linter.unusedSimpArgs false
set_option maxHeartbeats 6400000 in
set_option maxRecDepth 100000 in
theorem walk_t (sa : Option Addr) (sn sc : Nat) (os : Nat → OpV) (w : World) (hS : ScAt w sa sn os) (hsn : sn ≤ sc) (hsc : sc ≤ 9223372036854775807) (hT : Tbs w) :
    Calls Tryd.prog 31 #[.slice sa sn sc, .bool true] w fun e w' => e = .returned (.bool true) ∧ Below w.heap.size w w' := by
  have HS : Hid (ScAt w sa sn os) := hS
  have HT : Hid (Tbs w) := hT
  have HSZ : Hid (4 ≤ w.heap.size) := hT.t.size
  have hsi : ((sn : Nat) : Int) ≤ 9223372036854775807 := by omega
  obtain ⟨B, HB⟩ : ∃ B, Hid (w.heap.size = B) := ⟨_, rfl⟩
  have H0 : Hid (TSD (w.alloc (.cells tz.toArray 89)) w.heap.size w.heap.size true (fun _ => Sl.no) (.slice none 0 0) (.slice none 0 0) [] 65536) := tsd_start w true
  have HB0 : Hid (Below w.heap.size w (w.alloc (.cells tz.toArray 89))) := (Below.refl _ _).alloc (Nat.le_refl _) _
  have KP : Hid (∀ (o : OpV) (d : Nat → Sl) (kv wv : Value) (ts : List (Value × Value × List Int)) (left : Nat) (u : World), TSD u w.heap.size w.heap.size true d kv wv ts left → ts.length ≤ 99 → Below w.heap.size w u → (∀ v, Below w.heap.size w v → OpOk v o) → Calls Tryd.prog 48 #[.pointer (some ⟨w.heap.size, 0, none⟩), .agg o.L.toArray, .bool true] u (StepP w.heap.size w.heap.size true ts.length u)) := fun o d kv wv ts left u h hn hb ho => plays_t w.heap.size w.heap.size left d kv wv ts o.k o.a o.f o.h o.ka o.kn o.kc o.key o.pa o.pn o.pc o.xs o.yss u h (HT.out.below hb HSZ.out) HSZ.out hb.size hn (fun v hv => (ho v (hb.trans hv)).pv) (ho u hb).xl (ho u hb).fl (ho u hb).pb ⟨fun v hv => (ho v (hb.trans hv)).key, (ho u hb).kl, (ho u hb).kb, fun e b hx => view_blks (ho w (Below.refl _ _)).key e b hx⟩
  have KZ : Hid (∀ (k : Int) (i : Nat) (d : Nat → Sl) (kv wv : Value) (ts : List (Value × Value × List Int)) (left : Nat) (u : World), TSD u w.heap.size w.heap.size true d kv wv ts left → ts.length ≤ 99 → Below w.heap.size w u → Calls Tryd.prog 48 #[.pointer (some ⟨w.heap.size, 0, none⟩), .agg #[.int .i64 k, .int .i64 (i : Nat), .int .i64 0, .int .i64 0, .slice none 0 0, .slice none 0 0], .bool true] u (StepP w.heap.size w.heap.size true ts.length u)) := fun k i d kv wv ts left u h hn hb =>
    KP.out ⟨k, i, 0, 0, none, 0, 0, none, 0, 0, [], [], []⟩ d kv wv ts left u h hn hb (fun v _ => ⟨view_nil v, rfl, Nat.zero_le _, pv_nil v, rfl, by simp, Nat.zero_le _⟩)
  clear hS hsn hsc hT
  unfold tz at H0 HB0
  rw [HB.out] at H0 HB0 KP KZ HSZ ⊢
  go_enter Tryd.func31, Tryd.ntmps31
  go_upto_region 2 with fail
  rw [HB.out]
  generalize (w.alloc (.cells #[.pointer none, .pointer none, .pointer none, .pointer none, .pointer none, .pointer none, .int .i64 0, .bool false, .slice none 0 0, .slice none 0 0, .int .i64 0, .bool false, .slice none 0 0, .slice none 0 0, .int .i64 0, .bool false, .slice none 0 0, .slice none 0 0, .slice none 0 0, .slice none 0 0, .int .i64 65536] 89)) = w1 at H0 HB0 ⊢
  go_wp2
  go_loopw [6] (fun ii wr => ∃ i : Nat, i ≤ sn ∧ i ≤ 40 ∧ ii = .int .i64 (i : Nat) ∧ Hid (Below B w wr ∧ ∃ d kv wv ts left, ts.length ≤ 2 * i ∧ TSD wr B B true d kv wv ts left)) (fun ii _ => 40 - (intOf ii).toNat)
  case atStart => exact ⟨0, by omega, by omega, rfl, HB0.out, _, _, _, [], _, by simp, H0.out⟩
  case round =>
    obtain ⟨i, his, hi40, rfl, HR⟩ := hrel
    by_cases hlt : i < sn ∧ i < 40
    · have h1 : ((i : Nat) : Int) < ((sn : Nat) : Int) := by omega
      have h2 : ((i : Nat) : Int) < 40 := by omega
      obtain ⟨b, off, rfl, hbl, hop⟩ : ∃ b off, sa = some ⟨b, off, none⟩ ∧ b < w.heap.size ∧ ∀ i, i < sn → OpOk w (os i) ∧ w.rangeAt b (off + i * 6) (os i).L := by
        rcases HS.out with h | h
        · omega
        · exact h
      obtain ⟨OL, HOL⟩ : ∃ L, Hid (L = (os i).L) := ⟨_, rfl⟩
      have HRG : Hid (wr.rangeAt b (off + i * 6) OL) := fun j v hv => (HR.out.1.cell (p := ⟨b, off + i * 6 + j, none⟩) (by show b < B; rw [← HB.out]; exact hbl)).trans ((hop i hlt.1).2 j v (by rw [← HOL.out]; exact hv))
      have H92 : Hid ((Tryd.prog.info? 92).map (·.size) = some OL.length) := by show _ = _; rw [HOL.out]; exact size92o
      have HOP : Hid (∀ v, Below B w v → OpOk v (os i)) := fun v hv => by
        have ho := (hop i hlt.1).1
        have hvb : ∀ b, b < w.heap.size → v.heap[b]? = w.heap[b]? := fun b hb => hv.block b (by rw [← HB.out]; exact hb)
        exact ⟨ho.key.kept hvb, ho.kl, ho.kb, ho.pv.kept hvb, ho.xl, ho.fl, ho.pb⟩
      have HR2 : Hid (Below B w wr) := HR.out.1
      obtain ⟨d, kv, wv, ts, left, hl, hTs⟩ := HR.out.2
      have HTS : Hid (TSD wr B B true d kv wv ts left ∧ ts.length ≤ 2 * i) := ⟨hTs, hl⟩
      have KW : Hid (Calls Tryd.prog 48 #[.pointer (some ⟨B, 0, none⟩), .agg OL.toArray, .bool true] wr (StepP B B true ts.length wr)) := by rw [HOL.out]; exact KP.out (os i) d kv wv ts left wr hTs (by omega) HR2.out HOP.out
      clear hbl hop hl hTs
      go_wp2_with (first
        | (refine wpList_load_mid (by rfl) 92 (.tmp 25) (by rfl) b (off + i * 6) (by rfl) OL _ HRG.out Tryd.underlying92 rfl H92.out ?_)
        | (go_at_call 48; refine KW.out.mono ?_))
      intro e3 w3 hp3
      obtain ⟨rfl, ⟨d', kv', wv', ts', left', hl', hT'⟩, hb'⟩ := hp3
      have HN : Hid (Below B w w3 ∧ ∃ d kv wv ts left, ts.length ≤ 2 * (i + 1) ∧ TSD w3 B B true d kv wv ts left) := ⟨HR2.out.trans hb', d', kv', wv', ts', left', by have := HTS.out.2; omega, hT'⟩
      clear hb' hT' hl' KW
      go_wp2
      refine ⟨⟨i + 1, by omega, by omega, rfl, HN.out⟩, by simp only [intOf]; omega⟩
    · have HR1 : Hid (Below B w wr ∧ ∃ d kv wv ts left, ts.length ≤ 80 ∧ TSD wr B B true d kv wv ts left) := by
        obtain ⟨h1, d, kv, wv, ts, left, h2, h3⟩ := HR.out
        exact ⟨h1, d, kv, wv, ts, left, by omega, h3⟩
      have hend : (¬ ((i : Nat) : Int) < ((sn : Nat) : Int)) ∨ (((i : Nat) : Int) < ((sn : Nat) : Int) ∧ (40 : Int) ≤ ((i : Nat) : Int)) := by omega
      rcases hend with hend | ⟨hend, hend2⟩
      · have hle : ((sn : Nat) : Int) ≤ ((i : Nat) : Int) := by omega
        have hien : i = sn := by omega
        subst hien
        clear hlt hend
        go_wp2
        go_loopw [7] (fun ii wr => ∃ i : Nat, i ≤ 3 ∧ ii = .int .i64 (i : Nat) ∧ Hid (Below B w wr ∧ ∃ d kv wv ts left, ts.length ≤ 80 + 4 * i ∧ TSD wr B B true d kv wv ts left)) (fun ii _ => 3 - (intOf ii).toNat)
        case atStart => exact ⟨0, by omega, rfl, HR1.out⟩
        case round =>
          obtain ⟨i, hi, rfl, HQ⟩ := hrel
          by_cases hi3 : i < 3
          · have hii : ((i : Nat) : Int) < 3 := by omega
            have HQ1 : Hid (Below B w wr) := HQ.out.1
            obtain ⟨d, kv, wv, ts, left, hl, hTs⟩ := HQ.out.2
            have HTS : Hid (ts.length ≤ 80 + 4 * i) := hl
            have KW : Hid (Calls Tryd.prog 48 #[.pointer (some ⟨B, 0, none⟩), .agg #[.int .i64 3, .int .i64 (i : Nat), .int .i64 0, .int .i64 0, .slice none 0 0, .slice none 0 0], .bool true] wr (StepP B B true ts.length wr)) := KZ.out 3 i d kv wv ts left wr hTs (by omega) HQ1.out
            clear hl hTs
            go_wp2_with (first | (go_at_call 48; refine KW.out.mono ?_))
            intro e3 w3 hp3
            obtain ⟨rfl, ⟨d', kv', wv', ts', left', hl', hT'⟩, hb'⟩ := hp3
            have HB3 : Hid (Below B w w3) := HQ1.out.trans hb'
            have HL3 : Hid (ts'.length ≤ 82 + 4 * i) := by show _ ≤ _; have := HTS.out; omega
            have KW2 : Hid (Calls Tryd.prog 48 #[.pointer (some ⟨B, 0, none⟩), .agg #[.int .i64 6, .int .i64 (i : Nat), .int .i64 0, .int .i64 0, .slice none 0 0, .slice none 0 0], .bool true] w3 (StepP B B true ts'.length w3)) := KZ.out 6 i d' kv' wv' ts' left' w3 hT' (by have := HL3.out; omega) HB3.out
            clear hl' hT' hb' KW
            go_wp2_with (first | (go_at_call 48; refine KW2.out.mono ?_))
            intro e4 w4 hp4
            obtain ⟨rfl, ⟨d4, kv4, wv4, ts4, left4, hl4, hT4⟩, hb4⟩ := hp4
            have HN : Hid (Below B w w4 ∧ ∃ d kv wv ts left, ts.length ≤ 80 + 4 * (i + 1) ∧ TSD w4 B B true d kv wv ts left) := ⟨HB3.out.trans hb4, d4, kv4, wv4, ts4, left4, by have := HL3.out; omega, hT4⟩
            clear hb4 hT4 hl4 KW2
            go_wp2
            refine ⟨⟨i + 1, by omega, rfl, HN.out⟩, by simp only [intOf]; omega⟩
          · have hge : (3 : Int) ≤ ((i : Nat) : Int) := by omega
            have HQ1 : Hid (Below B w wr) := HQ.out.1
            obtain ⟨d, kv, wv, ts, left, hl, hTs⟩ := HQ.out.2
            have HK : Hid (Kpt B kv wv ts) := hTs.kpt
            have HE : Hid (EndS B B kv wv ts 0 wr) := hTs.ends
            have hBw : Hid (B ≤ wr.heap.size) := by show B ≤ _; rw [← HB.out]; exact HQ1.out.size
            obtain ⟨n, HN⟩ : ∃ n, Hid (n = ts.length) := ⟨_, rfl⟩
            have hn99 : n ≤ 99 := by rw [HN.out]; omega
            obtain ⟨ka, kc, hkv⟩ : ∃ a c, kv = .slice a n c := by rw [HN.out]; exact owns_slice0 hTs.s.kr
            clear hi hi3 hl hTs HQ
            go_wp2
            go_loopw [8] (fun ii wr => ∃ i : Nat, i ≤ n ∧ ii = .int .i64 (i : Nat) ∧ Hid (Below B w wr ∧ EndS B B kv wv ts i wr)) (fun ii _ => n - (intOf ii).toNat)
            case atStart => exact ⟨0, by omega, rfl, HQ1.out, HE.out⟩
            case round =>
              obtain ⟨i, hi, rfl, HW⟩ := hrel
              have hck : wr.cell? ⟨B, 18, none⟩ = some (.slice ka n kc) := by rw [← hkv]; exact HW.out.2.ck
              by_cases hin : i < n
              · have hii : ((i : Nat) : Int) < ((n : Nat) : Int) := by omega
                obtain ⟨kb, kc', wb, wc, xa, xc, ya, yc, Z, ek, ew, ck, cw, hx⟩ := HW.out.2.at i (Nat.le_refl _) (by rw [← HN.out]; exact hin)
                rw [← HN.out] at ek ew
                obtain ⟨L, HL⟩ : ∃ L, Hid (L = Z.length) := ⟨_, rfl⟩
                rw [← HL.out] at ck cw hx
                have hke : Value.slice ka n kc = .slice (some ⟨kb, 0, none⟩) n kc' := hkv.symm.trans ek
                injection hke with hk1 _ hk3
                subst hk1 hk3
                have hcw : wr.cell? ⟨B, 19, none⟩ = some (.slice (some ⟨wb, 0, none⟩) n wc) := by rw [← ew]; exact HW.out.2.cw
                have hit := HW.out.2.it i _ (Nat.le_refl _) hx
                have HIT : Hid (wr.ownsRow B 5 1 (.slice xa L xc) L (cellsU8 Z) ∧ View wr (.slice ya L yc) Z) := by
                  have := hit.1
                  simp only at this
                  rw [← HL.out] at this
                  exact ⟨this, hit.2⟩
                have HXX : Hid (ts[i]? = some (.slice xa L xc, .slice ya L yc, Z)) := hx
                have hL64 : L ≤ 64 := by rw [HL.out]; exact HK.out.ln _ (List.mem_of_getElem? hx)
                have KS : Hid (∀ m, Calls Tryd.prog 20 #[.slice xa L xc, .slice ya L yc] (wr.drewN m) fun e w' => e = .returned (.bool true) ∧ ∃ m', w' = (wr.drewN m).drewN m') := fun m => by
                  have h1 := same_any _ _ Z Z (wr.drewN m) (view_keepP (viewOwns HIT.out.1 HL.out.symm) (fun _ b hb => rfl)) (view_keepP HIT.out.2 (fun _ b hb => rfl))
                  rw [decide_eq_true (rfl : Z = Z)] at h1
                  exact h1
                clear hit hx ek ew hkv
                go_upto_region 15 with fail
                go_quiet ((go_at_call 20; exact Calls.quiet_of (KS.out _)))
                have HW2 : Hid (Below B w (wr.drewN nq) ∧ EndS B B kv wv ts i (wr.drewN nq)) := ⟨HW.out.1.trans (((drew_fr wr nq []).none).mono (by rw [← HB.out]; exact HW.out.1.size)), HW.out.2.drew nq⟩
                have HI2 : Hid ((wr.drewN nq).ownsRow B 5 1 (.slice xa L xc) L (cellsU8 Z)) := owns_same HIT.out.1 (fun b hb => rfl)
                have hck2 : (wr.drewN nq).cell? ⟨B, 18, none⟩ = some (.slice (some ⟨kb, 0, none⟩) n kc) := hck
                have hcx2 : (wr.drewN nq).cell? ⟨kb, i, none⟩ = some (.slice xa L xc) := ck
                clear hck hcw ck cw KS
                generalize wr.drewN nq = w5 at HW2 HI2 hck2 hcx2 ⊢
                have KSp : Hid (Calls Tryd.prog 21 #[.slice xa L xc] w5 (SpG (.slice xa L xc) w5)) := spoil_any B L _ Z w5 (by omega) (by rw [← HB.out]; exact HW2.out.1.size) HI2.out
                go_wp2_with (first | (go_at_call 21; refine KSp.out.mono ?_))
                intro e6 w6 hp6
                obtain ⟨rfl, hg6⟩ := hp6
                have H6 : Hid (Below B w w6 ∧ EndS B B kv wv ts (i + 1) w6) := by
                  refine ⟨HW2.out.1.trans ((grown_fr hg6).toBelow (fun b hb => (owns_blks HI2.out b (by simpa [vblk] using hb)).1) (by rw [← HB.out]; exact HW2.out.1.size)), HW2.out.2.spoil HK.out HXX.out hg6⟩
                clear hg6 KSp hck2 hcx2 HW HW2 HI2 HIT
                go_wp2
                go_loopw [9] (fun kk wr => ∃ k : Nat, i + 1 ≤ k ∧ k ≤ n ∧ kk = .int .i64 (k : Nat) ∧ Hid (Below B w wr ∧ EndS B B kv wv ts (i + 1) wr)) (fun kk _ => n - (intOf kk).toNat)
                case atStart => exact ⟨i + 1, by omega, by omega, by simp, H6.out⟩
                case round =>
                  obtain ⟨k, hk1, hk2, rfl, HV⟩ := hrel
                  have hck : wr.cell? ⟨B, 18, none⟩ = some kv := HV.out.2.ck
                  by_cases hkn : k < n
                  · have hki : ((k : Nat) : Int) < ((n : Nat) : Int) := by omega
                    obtain ⟨kb2, kc2, wb2, wc2, xa2, xc2, ya2, yc2, Z2, ek, ew, ck, cw, hx⟩ := HV.out.2.at k hk1 (by rw [← HN.out]; exact hkn)
                    rw [← HN.out] at ek ew
                    obtain ⟨L2, HL2⟩ : ∃ L, Hid (L = Z2.length) := ⟨_, rfl⟩
                    rw [← HL2.out] at ck cw hx
                    rw [ek] at hck
                    have hcw : wr.cell? ⟨B, 19, none⟩ = some (.slice (some ⟨wb2, 0, none⟩) n wc2) := by rw [← ew]; exact HV.out.2.cw
                    have hit := HV.out.2.it k _ hk1 hx
                    have HIT : Hid (wr.ownsRow B 5 1 (.slice xa2 L2 xc2) L2 (cellsU8 Z2) ∧ View wr (.slice ya2 L2 yc2) Z2) := by
                      have := hit.1
                      simp only at this
                      rw [← HL2.out] at this
                      exact ⟨this, hit.2⟩
                    have KS : Hid (∀ m, Calls Tryd.prog 20 #[.slice xa2 L2 xc2, .slice ya2 L2 yc2] (wr.drewN m) fun e w' => e = .returned (.bool true) ∧ ∃ m', w' = (wr.drewN m).drewN m') := fun m => by
                      have h1 := same_any _ _ Z2 Z2 (wr.drewN m) (view_keepP (viewOwns HIT.out.1 HL2.out.symm) (fun _ b hb => rfl)) (view_keepP HIT.out.2 (fun _ b hb => rfl))
                      rw [decide_eq_true (rfl : Z2 = Z2)] at h1
                      exact h1
                    clear hit hx ek ew
                    go_upto_region 21 with fail
                    go_quiet ((go_at_call 20; exact Calls.quiet_of (KS.out _)))
                    have HV2 : Hid (Below B w (wr.drewN nq) ∧ EndS B B kv wv ts (i + 1) (wr.drewN nq)) := ⟨HV.out.1.trans (((drew_fr wr nq []).none).mono (by rw [← HB.out]; exact HV.out.1.size)), HV.out.2.drew nq⟩
                    clear hck hcw ck cw KS
                    generalize wr.drewN nq = w7 at HV2 ⊢
                    go_wp2
                    refine ⟨⟨k + 1, by omega, by omega, rfl, HV2.out⟩, by simp only [intOf]; omega⟩
                  · obtain rfl : k = n := by omega
                    obtain ⟨ka3, kc3, hkv3⟩ : ∃ a c, kv = .slice a k c := by rw [HN.out]; exact owns_slice0 HV.out.2.kr
                    rw [hkv3] at hck
                    clear hk2 hkn
                    go_wp2
                    refine ⟨⟨i + 1, by omega, rfl, HV.out⟩, by simp only [intOf]; omega⟩
              · obtain rfl : i = n := by omega
                clear hi hin
                go_wp2
                go_ret
                exact ⟨rfl, HW.out.1⟩
      · clear hlt
        go_wp2
        go_loopw [7] (fun ii wr => ∃ i : Nat, i ≤ 3 ∧ ii = .int .i64 (i : Nat) ∧ Hid (Below B w wr ∧ ∃ d kv wv ts left, ts.length ≤ 80 + 4 * i ∧ TSD wr B B true d kv wv ts left)) (fun ii _ => 3 - (intOf ii).toNat)
        case atStart => exact ⟨0, by omega, rfl, HR1.out⟩
        case round =>
          obtain ⟨i, hi, rfl, HQ⟩ := hrel
          by_cases hi3 : i < 3
          · have hii : ((i : Nat) : Int) < 3 := by omega
            have HQ1 : Hid (Below B w wr) := HQ.out.1
            obtain ⟨d, kv, wv, ts, left, hl, hTs⟩ := HQ.out.2
            have HTS : Hid (ts.length ≤ 80 + 4 * i) := hl
            have KW : Hid (Calls Tryd.prog 48 #[.pointer (some ⟨B, 0, none⟩), .agg #[.int .i64 3, .int .i64 (i : Nat), .int .i64 0, .int .i64 0, .slice none 0 0, .slice none 0 0], .bool true] wr (StepP B B true ts.length wr)) := KZ.out 3 i d kv wv ts left wr hTs (by omega) HQ1.out
            clear hl hTs
            go_wp2_with (first | (go_at_call 48; refine KW.out.mono ?_))
            intro e3 w3 hp3
            obtain ⟨rfl, ⟨d', kv', wv', ts', left', hl', hT'⟩, hb'⟩ := hp3
            have HB3 : Hid (Below B w w3) := HQ1.out.trans hb'
            have HL3 : Hid (ts'.length ≤ 82 + 4 * i) := by show _ ≤ _; have := HTS.out; omega
            have KW2 : Hid (Calls Tryd.prog 48 #[.pointer (some ⟨B, 0, none⟩), .agg #[.int .i64 6, .int .i64 (i : Nat), .int .i64 0, .int .i64 0, .slice none 0 0, .slice none 0 0], .bool true] w3 (StepP B B true ts'.length w3)) := KZ.out 6 i d' kv' wv' ts' left' w3 hT' (by have := HL3.out; omega) HB3.out
            clear hl' hT' hb' KW
            go_wp2_with (first | (go_at_call 48; refine KW2.out.mono ?_))
            intro e4 w4 hp4
            obtain ⟨rfl, ⟨d4, kv4, wv4, ts4, left4, hl4, hT4⟩, hb4⟩ := hp4
            have HN : Hid (Below B w w4 ∧ ∃ d kv wv ts left, ts.length ≤ 80 + 4 * (i + 1) ∧ TSD w4 B B true d kv wv ts left) := ⟨HB3.out.trans hb4, d4, kv4, wv4, ts4, left4, by have := HL3.out; omega, hT4⟩
            clear hb4 hT4 hl4 KW2
            go_wp2
            refine ⟨⟨i + 1, by omega, rfl, HN.out⟩, by simp only [intOf]; omega⟩
          · have hge : (3 : Int) ≤ ((i : Nat) : Int) := by omega
            have HQ1 : Hid (Below B w wr) := HQ.out.1
            obtain ⟨d, kv, wv, ts, left, hl, hTs⟩ := HQ.out.2
            have HK : Hid (Kpt B kv wv ts) := hTs.kpt
            have HE : Hid (EndS B B kv wv ts 0 wr) := hTs.ends
            have hBw : Hid (B ≤ wr.heap.size) := by show B ≤ _; rw [← HB.out]; exact HQ1.out.size
            obtain ⟨n, HN⟩ : ∃ n, Hid (n = ts.length) := ⟨_, rfl⟩
            have hn99 : n ≤ 99 := by rw [HN.out]; omega
            obtain ⟨ka, kc, hkv⟩ : ∃ a c, kv = .slice a n c := by rw [HN.out]; exact owns_slice0 hTs.s.kr
            clear hi hi3 hl hTs HQ
            go_wp2
            go_loopw [8] (fun ii wr => ∃ i : Nat, i ≤ n ∧ ii = .int .i64 (i : Nat) ∧ Hid (Below B w wr ∧ EndS B B kv wv ts i wr)) (fun ii _ => n - (intOf ii).toNat)
            case atStart => exact ⟨0, by omega, rfl, HQ1.out, HE.out⟩
            case round =>
              obtain ⟨i, hi, rfl, HW⟩ := hrel
              have hck : wr.cell? ⟨B, 18, none⟩ = some (.slice ka n kc) := by rw [← hkv]; exact HW.out.2.ck
              by_cases hin : i < n
              · have hii : ((i : Nat) : Int) < ((n : Nat) : Int) := by omega
                obtain ⟨kb, kc', wb, wc, xa, xc, ya, yc, Z, ek, ew, ck, cw, hx⟩ := HW.out.2.at i (Nat.le_refl _) (by rw [← HN.out]; exact hin)
                rw [← HN.out] at ek ew
                obtain ⟨L, HL⟩ : ∃ L, Hid (L = Z.length) := ⟨_, rfl⟩
                rw [← HL.out] at ck cw hx
                have hke : Value.slice ka n kc = .slice (some ⟨kb, 0, none⟩) n kc' := hkv.symm.trans ek
                injection hke with hk1 _ hk3
                subst hk1 hk3
                have hcw : wr.cell? ⟨B, 19, none⟩ = some (.slice (some ⟨wb, 0, none⟩) n wc) := by rw [← ew]; exact HW.out.2.cw
                have hit := HW.out.2.it i _ (Nat.le_refl _) hx
                have HIT : Hid (wr.ownsRow B 5 1 (.slice xa L xc) L (cellsU8 Z) ∧ View wr (.slice ya L yc) Z) := by
                  have := hit.1
                  simp only at this
                  rw [← HL.out] at this
                  exact ⟨this, hit.2⟩
                have HXX : Hid (ts[i]? = some (.slice xa L xc, .slice ya L yc, Z)) := hx
                have hL64 : L ≤ 64 := by rw [HL.out]; exact HK.out.ln _ (List.mem_of_getElem? hx)
                have KS : Hid (∀ m, Calls Tryd.prog 20 #[.slice xa L xc, .slice ya L yc] (wr.drewN m) fun e w' => e = .returned (.bool true) ∧ ∃ m', w' = (wr.drewN m).drewN m') := fun m => by
                  have h1 := same_any _ _ Z Z (wr.drewN m) (view_keepP (viewOwns HIT.out.1 HL.out.symm) (fun _ b hb => rfl)) (view_keepP HIT.out.2 (fun _ b hb => rfl))
                  rw [decide_eq_true (rfl : Z = Z)] at h1
                  exact h1
                clear hit hx ek ew hkv
                go_upto_region 15 with fail
                go_quiet ((go_at_call 20; exact Calls.quiet_of (KS.out _)))
                have HW2 : Hid (Below B w (wr.drewN nq) ∧ EndS B B kv wv ts i (wr.drewN nq)) := ⟨HW.out.1.trans (((drew_fr wr nq []).none).mono (by rw [← HB.out]; exact HW.out.1.size)), HW.out.2.drew nq⟩
                have HI2 : Hid ((wr.drewN nq).ownsRow B 5 1 (.slice xa L xc) L (cellsU8 Z)) := owns_same HIT.out.1 (fun b hb => rfl)
                have hck2 : (wr.drewN nq).cell? ⟨B, 18, none⟩ = some (.slice (some ⟨kb, 0, none⟩) n kc) := hck
                have hcx2 : (wr.drewN nq).cell? ⟨kb, i, none⟩ = some (.slice xa L xc) := ck
                clear hck hcw ck cw KS
                generalize wr.drewN nq = w5 at HW2 HI2 hck2 hcx2 ⊢
                have KSp : Hid (Calls Tryd.prog 21 #[.slice xa L xc] w5 (SpG (.slice xa L xc) w5)) := spoil_any B L _ Z w5 (by omega) (by rw [← HB.out]; exact HW2.out.1.size) HI2.out
                go_wp2_with (first | (go_at_call 21; refine KSp.out.mono ?_))
                intro e6 w6 hp6
                obtain ⟨rfl, hg6⟩ := hp6
                have H6 : Hid (Below B w w6 ∧ EndS B B kv wv ts (i + 1) w6) := by
                  refine ⟨HW2.out.1.trans ((grown_fr hg6).toBelow (fun b hb => (owns_blks HI2.out b (by simpa [vblk] using hb)).1) (by rw [← HB.out]; exact HW2.out.1.size)), HW2.out.2.spoil HK.out HXX.out hg6⟩
                clear hg6 KSp hck2 hcx2 HW HW2 HI2 HIT
                go_wp2
                go_loopw [9] (fun kk wr => ∃ k : Nat, i + 1 ≤ k ∧ k ≤ n ∧ kk = .int .i64 (k : Nat) ∧ Hid (Below B w wr ∧ EndS B B kv wv ts (i + 1) wr)) (fun kk _ => n - (intOf kk).toNat)
                case atStart => exact ⟨i + 1, by omega, by omega, by simp, H6.out⟩
                case round =>
                  obtain ⟨k, hk1, hk2, rfl, HV⟩ := hrel
                  have hck : wr.cell? ⟨B, 18, none⟩ = some kv := HV.out.2.ck
                  by_cases hkn : k < n
                  · have hki : ((k : Nat) : Int) < ((n : Nat) : Int) := by omega
                    obtain ⟨kb2, kc2, wb2, wc2, xa2, xc2, ya2, yc2, Z2, ek, ew, ck, cw, hx⟩ := HV.out.2.at k hk1 (by rw [← HN.out]; exact hkn)
                    rw [← HN.out] at ek ew
                    obtain ⟨L2, HL2⟩ : ∃ L, Hid (L = Z2.length) := ⟨_, rfl⟩
                    rw [← HL2.out] at ck cw hx
                    rw [ek] at hck
                    have hcw : wr.cell? ⟨B, 19, none⟩ = some (.slice (some ⟨wb2, 0, none⟩) n wc2) := by rw [← ew]; exact HV.out.2.cw
                    have hit := HV.out.2.it k _ hk1 hx
                    have HIT : Hid (wr.ownsRow B 5 1 (.slice xa2 L2 xc2) L2 (cellsU8 Z2) ∧ View wr (.slice ya2 L2 yc2) Z2) := by
                      have := hit.1
                      simp only at this
                      rw [← HL2.out] at this
                      exact ⟨this, hit.2⟩
                    have KS : Hid (∀ m, Calls Tryd.prog 20 #[.slice xa2 L2 xc2, .slice ya2 L2 yc2] (wr.drewN m) fun e w' => e = .returned (.bool true) ∧ ∃ m', w' = (wr.drewN m).drewN m') := fun m => by
                      have h1 := same_any _ _ Z2 Z2 (wr.drewN m) (view_keepP (viewOwns HIT.out.1 HL2.out.symm) (fun _ b hb => rfl)) (view_keepP HIT.out.2 (fun _ b hb => rfl))
                      rw [decide_eq_true (rfl : Z2 = Z2)] at h1
                      exact h1
                    clear hit hx ek ew
                    go_upto_region 21 with fail
                    go_quiet ((go_at_call 20; exact Calls.quiet_of (KS.out _)))
                    have HV2 : Hid (Below B w (wr.drewN nq) ∧ EndS B B kv wv ts (i + 1) (wr.drewN nq)) := ⟨HV.out.1.trans (((drew_fr wr nq []).none).mono (by rw [← HB.out]; exact HV.out.1.size)), HV.out.2.drew nq⟩
                    clear hck hcw ck cw KS
                    generalize wr.drewN nq = w7 at HV2 ⊢
                    go_wp2
                    refine ⟨⟨k + 1, by omega, by omega, rfl, HV2.out⟩, by simp only [intOf]; omega⟩
                  · obtain rfl : k = n := by omega
                    obtain ⟨ka3, kc3, hkv3⟩ : ∃ a c, kv = .slice a k c := by rw [HN.out]; exact owns_slice0 HV.out.2.kr
                    rw [hkv3] at hck
                    clear hk2 hkn
                    go_wp2
                    refine ⟨⟨i + 1, by omega, rfl, HV.out⟩, by simp only [intOf]; omega⟩
              · obtain rfl : i = n := by omega
                clear hi hin
                go_wp2
                go_ret
                exact ⟨rfl, HW.out.1⟩
end Go.Proofs.YtioggmjocelolacDoor
namespace Go.Proofs.YtioggmjocelolacDoor
open Go.RowKit
set_option linter.unusedVariables false
set_option linter.unusedSimpArgs false
theorem view_one (w : World) : View (w.alloc (.cells #[.int .u8 1] 5)) (.slice (some ⟨w.heap.size, 0, none⟩) 1 1) [1] := by
  refine ⟨_, 1, rfl, by decide, by decide, fun h => by simp at h, .inr ⟨w.heap.size, 0, rfl, fun i hi => ?_⟩⟩
  rw [World.cell?_alloc_at _ 5 _ _ rfl]
  match i, hi with
  | 0, _ => rfl
set_option maxHeartbeats 1600000 in
set_option maxRecDepth 100000 in
theorem macs_ok (sa : Option Addr) (sn sc : Nat) (os : Nat → OpV) (w : World) (hS : ScAt w sa sn os) (hsn : sn ≤ sc) (hsc : sc ≤ 9223372036854775807) (hT : Tbs w) :
    Calls Tryd.prog 8 #[.slice sa sn sc] w fun e w' => e = .returned (.bool true) ∧ Below w.heap.size w w' := by
  have HB0 : Hid (Below w.heap.size w (w.alloc (.cells #[.int .u8 1] 5))) := (Below.refl _ _).alloc (Nat.le_refl _) _
  have KN : Hid (Calls Tryd.prog 32 #[.int .i64 256, .slice (some ⟨w.heap.size, 0, none⟩) 1 1] (w.alloc (.cells #[.int .u8 1] 5)) (NewMG (w.alloc (.cells #[.int .u8 1] 5)) 256 [1])) := newMac_any 256 _ [1] _ (.inr (.inl rfl)) (view_one w) (by decide) (hT.t.below HB0.out hT.t.size)
  have HS : Hid (ScAt w sa sn os) := hS
  have HT : Hid (Tbs w) := hT
  have HL : Hid (sn ≤ sc ∧ sc ≤ 9223372036854775807) := ⟨hsn, hsc⟩
  clear hS hsn hsc hT
  go_enter Tryd.func8, Tryd.ntmps8
  go_wp2_with (first | (go_at_call 32; refine KN.out.mono ?_))
  intro e1 w1 hp1
  obtain ⟨g, rfl, hg, hr, hb0⟩ := hp1
  have hb : Below w.heap.size w w1 := HB0.out.trans (hb0.mono HB0.out.size)
  have HB : Hid (Below w.heap.size w w1) := hb
  have KZ : Hid (Calls Tryd.prog 33 #[.pointer (some ⟨g, 0, none⟩)] w1 fun e w' => e = .returned (.int .i64 32) ∧ w' = w1) := by
    obtain ⟨half, hk, _⟩ := hr.1
    exact msize g 256 w1 (.inr (.inl rfl)) hk.hash
  have KW : Hid (Calls Tryd.prog 31 #[.slice sa sn sc, .bool true] w1 fun e w' => e = .returned (.bool true) ∧ Below w1.heap.size w1 w') := walk_t sa sn sc os w1 (HS.out.below hb) HL.out.1 HL.out.2 (HT.out.below hb HT.out.t.size)
  clear hg hr hb hb0 KN HB0
  go_wp2_with (first
    | (go_at_call 11; refine (num_u _ _).mono ?_; rintro e9 w9 ⟨rfl, hw9⟩; obtain rfl := hw9.symm)
    | (go_at_call 33; refine KZ.out.mono ?_; rintro e9 w9 ⟨rfl, hw9⟩; obtain rfl := hw9.symm)
    | (go_at_call 31; refine KW.out.mono ?_))
  rintro e2 w2 ⟨rfl, hb2⟩
  have HE : Hid (Below w.heap.size w w2) := HB.out.trans (hb2.mono HB.out.size)
  clear hb2 KW KZ
  go_wp2
  go_ret
  exact ⟨rfl, HE.out⟩
end Go.Proofs.YtioggmjocelolacDoor
