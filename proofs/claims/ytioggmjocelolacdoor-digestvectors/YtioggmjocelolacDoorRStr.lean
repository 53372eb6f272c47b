import Derived.Test.YtioggmjocelolacDoorRStE
namespace Go.Proofs.YtioggmjocelolacDoor
open Go.RowKit
set_option linter.unusedVariables false
set_option linter.unusedSimpArgs false
set_option maxHeartbeats 3200000 in
set_option maxRecDepth 100000 in
theorem rstretch_walk (h : Int) (ka sa : Option Addr) (kn kc sl sc n : Nat) (key salt : List Int) (T : Int) (t1 : Nat) (w : World) (k : Hid (Known h)) (hR : Hid (RTab w)) (hk : Hid (View w (.slice ka kn kc) key)) (hkn : Hid (key.length = kn)) (hs : Hid (View w (.slice sa sl sc) salt)) (hsl : Hid (salt.length = sl)) (hkl : kn ≤ 65536) (hsl2 : sl ≤ 65536) (hn1 : 1 ≤ n) (hn2 : n ≤ 65536) (hT1 : Hid (T = (t1 : Nat) + 1)) (ht1 : t1 ≤ 1048575) :
    Calls Tryd.prog 19 #[.int .i64 h, .slice ka kn kc, .slice sa sl sc, .int .i64 T, .int .i64 n] w fun e w' => ∃ v' q, e = .returned v' ∧ View w' v' ((strL h key salt t1 q).take n) ∧ n ≤ q * szOf h ∧ (∀ b, v'.ownBlock = some b → w.heap.size ≤ b) ∧ Below w.heap.size w w' := by
  have hR2 := hR.out.size
  have hsp := szOf_pos k.out
  obtain ⟨sz, HSz⟩ : ∃ sz, Hid (sz = szOf h) := ⟨_, rfl⟩
  have hsz : 1 ≤ sz ∧ sz ≤ 64 := by rw [HSz.out]; exact hsp
  have hTa : 1 ≤ T := by have := hT1.out; omega
  have hTb : T ≤ 1048576 := by have := hT1.out; omega
  clear hsp
  go_enter Tryd.func19, Tryd.ntmps19
  go_wp2
  go_loopw [11, 12] (fun v11 vi wr => ∃ q i L c : Nat, ∃ a : Option Addr, Hid (i = q + 1) ∧ Hid (L = q * sz) ∧ i ≤ 65537 ∧ i ≤ L + 1 ∧ vi = .int .i64 i ∧ v11 = .slice a L c ∧ Hid (wr.ownsRow w.heap.size 5 1 (.slice a L c) L (cellsU8 (strL h key salt t1 q))) ∧ Hid (Below w.heap.size w wr)) (fun _ vi _ => n + 1 - (intOf vi).toNat)
  case atStart => exact ⟨0, 1, 0, 0, none, rfl, (by show 0 = _; rw [Nat.zero_mul]), by omega, by omega, rfl, rfl, World.ownsRow_nil _ _ _ _, Below.refl _ _⟩
  case round =>
    obtain ⟨q, i, L, c, a, HIq, HLq, hi256, hiL, rfl, rfl, HO, HB3⟩ := hrel
    by_cases hlt : L < n
    · have hi255 : i ≤ 65536 := by omega
      have hi1 : 1 ≤ i := by have := HIq.out; omega
      have HS3 : Hid (View wr (.slice sa sl sc) salt) := hs.out.kept fun b hb => HB3.out.block b hb
      go_wp2_with (first | (at_builtin; go_must (refine wpList_append_view rfl (.tmp 24) (.tmp 25) rfl w.heap.size 0 sl (.slice none 0 0) [] rfl (World.ownsRow_nil _ _ _ _) sa sl sc rfl salt HS3.out hsl.out (by omega) (by omega) HB3.out.size ?_)))
      intro v4 w4 hown4 hgrow4 hat4
      obtain ⟨a4, c4, rfl⟩ := owns_slice hown4
      have HO4 : Hid (w4.ownsRow w.heap.size 5 1 (.slice a4 sl c4) sl (cellsU8 salt)) := hown4
      have HA4 : Hid (RowsApart (.slice a4 sl c4) (.slice a L c)) := apart_step HO.out (fun b hb => by cases hb) hat4 (Nat.le_refl _)
      have HU4 : Hid (w4.ownsRow w.heap.size 5 1 (.slice a L c) L (cellsU8 (strL h key salt t1 q))) := owns_other HO.out hgrow4 (fun b hb => by cases hb)
      have HB4 : Hid (Below w.heap.size w w4) := HB3.out.grown hgrow4 HB3.out.size (fun b hb => by cases hb)
      clear hown4 hgrow4 hat4 HO HS3 HB3
      have hBa : Below w4.heap.size w4 (w4.alloc (.cells #[.int .u8 ((i : Nat) / 16777216), .int .u8 ((i : Nat) / 65536), .int .u8 ((i : Nat) / 256 % 256), .int .u8 ((i : Nat) % 256)] 5)) := (Below.refl _ _).alloc (Nat.le_refl _) _
      have HOa : Hid ((w4.alloc (.cells #[.int .u8 ((i : Nat) / 16777216), .int .u8 ((i : Nat) / 65536), .int .u8 ((i : Nat) / 256 % 256), .int .u8 ((i : Nat) % 256)] 5)).ownsRow w.heap.size 5 1 (.slice a4 sl c4) sl (cellsU8 salt)) := owns_kept HO4.out hBa
      have HUa : Hid ((w4.alloc (.cells #[.int .u8 ((i : Nat) / 16777216), .int .u8 ((i : Nat) / 65536), .int .u8 ((i : Nat) / 256 % 256), .int .u8 ((i : Nat) % 256)] 5)).ownsRow w.heap.size 5 1 (.slice a L c) L (cellsU8 (strL h key salt t1 q))) := owns_kept HU4.out hBa
      have HBa : Hid (Below w.heap.size w (w4.alloc (.cells #[.int .u8 ((i : Nat) / 16777216), .int .u8 ((i : Nat) / 65536), .int .u8 ((i : Nat) / 256 % 256), .int .u8 ((i : Nat) % 256)] 5))) := HB4.out.trans (hBa.mono HB4.out.size)
      have HVa : Hid (View (w4.alloc (.cells #[.int .u8 ((i : Nat) / 16777216), .int .u8 ((i : Nat) / 65536), .int .u8 ((i : Nat) / 256 % 256), .int .u8 ((i : Nat) % 256)] 5)) (.slice (some ⟨w4.heap.size, 0, none⟩) 4 4) (be4 (i : Nat))) := view4 w4 5 _ _ _ _
      clear hBa
      go_wp2_with (first | (at_builtin; go_must (refine wpList_append_view rfl (.tmp 27) (.tmp 39) rfl w.heap.size sl (sl + 4) (.slice a4 sl c4) salt rfl HOa.out (some ⟨w4.heap.size, 0, none⟩) 4 4 rfl (be4 (i : Nat)) HVa.out rfl rfl (by omega) HBa.out.size ?_)))
      intro v6 w6 hown6 hgrow6 hat6
      obtain ⟨a6, c6, rfl⟩ := owns_slice hown6
      obtain ⟨x, HX⟩ : ∃ x, Hid (x = salt ++ be4 (i : Nat)) := ⟨_, rfl⟩
      rw [← HX.out] at hown6
      have HO6 : Hid (w6.ownsRow w.heap.size 5 1 (.slice a6 (sl + 4) c6) (sl + 4) (cellsU8 x)) := hown6
      have HU6 : Hid (w6.ownsRow w.heap.size 5 1 (.slice a L c) L (cellsU8 (strL h key salt t1 q))) := owns_other HUa.out hgrow6 HA4.out
      have HB6 : Hid (Below w.heap.size w w6) := HBa.out.grown hgrow6 HBa.out.size (fun b hb => (HOa.out.lt b hb).1)
      have HXl : Hid (x.length = sl + 4) := by show _ = _; rw [HX.out, List.length_append, hsl.out]; rfl
      clear hown6 hgrow6 hat6 HO4 HA4 HU4 HB4 HOa HUa HBa HVa
      have HD : Hid (Calls Tryd.prog 24 #[.int .i64 h, .slice ka kn kc, .slice a6 (sl + 4) c6] w6 fun e w' => Hid (∃ v', e = .returned v' ∧ w'.ownsRow w6.heap.size 5 1 v' sz (cellsU8 (stU h key x 0)) ∧ Below w6.heap.size w6 w')) := by
        rw [HSz.out]
        exact rcode_walk h ka kn kc a6 (sl + 4) c6 key x w6 k (hR.out.below HB6.out hR2) (hk.out.kept fun b hb => HB6.out.block b hb) hkn (viewOwns HO6.out HXl.out) HXl (by omega) (by omega)
      go_upto_region 9 with (go_at_call 24; refine HD.out.mono ?_)
      intro e9 w9 hh
      obtain ⟨v9, rfl, ho9, hb9⟩ := hh.out
      obtain ⟨g9, c9, rfl⟩ := owns_some ho9 (by omega)
      have HUl : Hid (∀ t, (stU h key x t).length = sz) := fun t => by rw [HSz.out]; exact stU_length k.out key x t
      have HSl : Hid (∀ t, (stS h key x t).length = sz) := fun t => by rw [HSz.out]; exact stS_length k.out key x t
      have HV9 : Hid (View w9 (.slice (some ⟨g9, 0, none⟩) sz c9) (stU h key x 0)) := viewOwns ho9 (HUl.out 0)
      have HU9 : Hid (w9.ownsRow w.heap.size 5 1 (.slice a L c) L (cellsU8 (strL h key salt t1 q))) := owns_kept HU6.out hb9
      have HB9 : Hid (Below w.heap.size w w9) := HB6.out.trans (hb9.mono HB6.out.size)
      have HG9 : Hid (g9 < w9.heap.size) := (ho9.lt g9 rfl).2
      clear hh ho9 hb9 HD HO6 HU6 HB6
      go_wp2_with (first | (at_builtin; go_must (refine wpList_append_view rfl (.tmp 45) (.tmp 46) rfl w.heap.size 0 sz (.slice none 0 0) [] rfl (World.ownsRow_nil _ _ _ _) (some ⟨g9, 0, none⟩) sz c9 rfl (stU h key x 0) HV9.out (HUl.out 0) (by omega) (by omega) HB9.out.size ?_)))
      intro v10 w10 hown10 hgrow10 hat10
      obtain ⟨gS, cS, rfl⟩ := owns_some hown10 (by omega)
      have hgS : gS = w9.heap.size := by
        rcases hat10 with q1 | q1
        · cases q1
        · injection q1
      have HO10 : Hid (w10.ownsRow w.heap.size 5 1 (.slice (some ⟨gS, 0, none⟩) sz cS) sz (cellsU8 (stS h key x 0))) := hown10
      have HA10 : Hid (RowsApart (.slice (some ⟨gS, 0, none⟩) sz cS) (.slice a L c)) := apart_step HU9.out (fun b hb => by cases hb) hat10 (Nat.le_refl _)
      have HU10 : Hid (w10.ownsRow w.heap.size 5 1 (.slice a L c) L (cellsU8 (strL h key salt t1 q))) := owns_other HU9.out hgrow10 (fun b hb => by cases hb)
      have HB10 : Hid (Below w.heap.size w w10) := HB9.out.grown hgrow10 HB9.out.size (fun b hb => by cases hb)
      have HV10 : Hid (View w10 (.slice (some ⟨g9, 0, none⟩) sz c9) (stU h key x 0)) := HV9.out.grown hgrow10 (fun b off l c' e e2 => by cases e2)
      have HG10 : Hid (g9 ≠ gS) := by have := HG9.out; show g9 ≠ gS; omega
      have hcS : sz ≤ cS ∧ cS ≤ maxLen := by
        obtain ⟨_, _, e, q1, q2, _⟩ := viewOwns hown10 (HUl.out 0)
        injection e with e1 e2 e3
        have := HUl.out 0
        omega
      unfold maxLen at hcS
      clear hown10 hgrow10 hat10 HV9 HU9 HB9 HG9 hgS
      go_wp2
      go_loopw [14, 16] (fun v14 vt wr => ∃ r p gU cU : Nat, Hid (p = r + 1) ∧ r ≤ t1 ∧ vt = .int .i64 p ∧ v14 = .slice (some ⟨gU, 0, none⟩) sz cU ∧ Hid (View wr (.slice (some ⟨gU, 0, none⟩) sz cU) (stU h key x r)) ∧ Hid (gU ≠ gS) ∧ Hid (wr.ownsRow w.heap.size 5 1 (.slice (some ⟨gS, 0, none⟩) sz cS) sz (cellsU8 (stS h key x r))) ∧ Hid (wr.ownsRow w.heap.size 5 1 (.slice a L c) L (cellsU8 (strL h key salt t1 q))) ∧ Hid (Below w.heap.size w wr)) (fun _ vt _ => t1 + 1 - (intOf vt).toNat)
      case atStart => exact ⟨0, 1, g9, c9, rfl, Nat.zero_le _, rfl, rfl, HV10, HG10, HO10, HU10, HB10⟩
      case round =>
        obtain ⟨r, p, gU, cU, hp, hr, rfl, rfl, HVr, HGr, HOr, HUr, HBr⟩ := hrel
        clear HV10 HG10 HO10 HU10 HB10
        by_cases hrt : r < t1
        · have hpT : ((p : Nat) : Int) < T := by have := hT1.out; have := hp.out; omega
          have hpb : p ≤ 1048576 := by have := hp.out; omega
          have HD : Hid (Calls Tryd.prog 24 #[.int .i64 h, .slice ka kn kc, .slice (some ⟨gU, 0, none⟩) sz cU] wr fun e w' => Hid (∃ v', e = .returned v' ∧ w'.ownsRow wr.heap.size 5 1 v' sz (cellsU8 (stU h key x (r + 1))) ∧ Below wr.heap.size wr w')) := by
            have q := rcode_walk h ka kn kc (some ⟨gU, 0, none⟩) sz cU key (stU h key x r) wr k (hR.out.below HBr.out hR2) (hk.out.kept fun b hb => HBr.out.block b hb) hkn HVr (HUl.out r) (by omega) (by omega)
            rw [← HSz.out] at q
            exact q
          go_upto_region 15 with (go_at_call 24; refine HD.out.mono ?_)
          intro e11 w11 hh
          obtain ⟨v11, rfl, ho11, hb11⟩ := hh.out
          obtain ⟨gN, cN, rfl⟩ := owns_some ho11 (by omega)
          have HV11 : Hid (View w11 (.slice (some ⟨gN, 0, none⟩) sz cN) (stU h key x (r + 1))) := viewOwns ho11 (HUl.out (r + 1))
          have HG11 : Hid (gN ≠ gS) := by have h1 := (ho11.lt gN rfl).1; have h2 := (HOr.out.lt gS rfl).2; show gN ≠ gS; omega
          have HO11 : Hid (w11.ownsRow w.heap.size 5 1 (.slice (some ⟨gS, 0, none⟩) sz cS) sz (cellsU8 (mixL (stS h key x r) (stU h key x (r + 1)) 0))) := owns_kept HOr.out hb11
          have HU11 : Hid (w11.ownsRow w.heap.size 5 1 (.slice a L c) L (cellsU8 (strL h key salt t1 q))) := owns_kept HUr.out hb11
          have HB11 : Hid (Below w.heap.size w w11) := HBr.out.trans (hb11.mono HBr.out.size)
          have hcN : sz ≤ cN ∧ cN ≤ maxLen := by
            obtain ⟨_, _, e, q1, q2, _⟩ := HV11.out
            injection e with e1 e2 e3
            have := HUl.out (r + 1)
            omega
          unfold maxLen at hcN
          clear hh ho11 hb11 HD HVr HGr HOr HUr HBr
          go_wp2
          go_loopw [17] (fun vj wx => ∃ j : Nat, j ≤ sz ∧ vj = .int .i64 j ∧ Hid (View wx (.slice (some ⟨gN, 0, none⟩) sz cN) (stU h key x (r + 1))) ∧ Hid (wx.ownsRow w.heap.size 5 1 (.slice (some ⟨gS, 0, none⟩) sz cS) sz (cellsU8 (mixL (stS h key x r) (stU h key x (r + 1)) j))) ∧ Hid (wx.ownsRow w.heap.size 5 1 (.slice a L c) L (cellsU8 (strL h key salt t1 q))) ∧ Hid (Below w.heap.size w wx)) (fun vj _ => sz - (intOf vj).toNat)
          case atStart => exact ⟨0, Nat.zero_le _, rfl, HV11, HO11, HU11, HB11⟩
          case round =>
            obtain ⟨j, hj, rfl, HVj, HOj, HUj, HBj⟩ := hrel
            clear HV11 HO11 HU11 HB11
            by_cases hjl : j < sz
            · obtain ⟨xx, hx⟩ : ∃ x', x' = fnz (stU h key x (r + 1)) j := ⟨_, rfl⟩
              obtain ⟨yy, hy⟩ : ∃ y, y = fnz (stS h key x r) j := ⟨_, rfl⟩
              have g1 : wr.cell? ⟨gN, j, none⟩ = some (.int .u8 xx) := by
                obtain ⟨_, _, e, _, _, _, q4⟩ := HVj.out
                rcases q4 with q4 | ⟨b', off', e2, q5⟩
                · have := HUl.out (r + 1); rw [q4] at this; simp at this; omega
                · injection e with e1 _ _
                  rw [e2] at e1
                  injection e1 with e1
                  injection e1 with e3 e4
                  subst e3 e4
                  have q6 := q5 j (by rw [HUl.out (r + 1)]; exact hjl)
                  rw [Nat.zero_add] at q6
                  rw [q6, hx]
                  rfl
              have g2 : wr.cell? ⟨gS, j, none⟩ = some (.int .u8 yy) := by
                rw [HOj.out.cellAt j (by omega), fnz_at (by rw [mixL_length, HSl.out r]; exact hjl), mixL_get _ _ _ _ (by rw [HSl.out r]; omega), if_neg (by omega), hy]
              have g3 : wr.frozen? ⟨gS, j, none⟩ = false := HOj.out.frozenAt j
              have hst := HOj.out.stored j (.int .u8 (bits .xor .u8 yy xx))
              have HOn : Hid ((wr.setCell ⟨gS, j, none⟩ (.int .u8 (bits .xor .u8 yy xx))).ownsRow w.heap.size 5 1 (.slice (some ⟨gS, 0, none⟩) sz cS) sz (cellsU8 (mixL (stS h key x r) (stU h key x (r + 1)) (j + 1)))) := by
                have q := hst.1
                rw [cells_set] at q
                rw [mixL, ← hx, ← hy]
                exact q
              have HVn : Hid (View (wr.setCell ⟨gS, j, none⟩ (.int .u8 (bits .xor .u8 yy xx))) (.slice (some ⟨gN, 0, none⟩) sz cN) (stU h key x (r + 1))) := HVj.out.grown hst.2 (fun b off l c' e e2 => by injection e with e1 _ _; injection e1 with e1; injection e1 with e3 _; injection e2 with e2; exact HG11.out (e3.trans e2))
              have HUn : Hid ((wr.setCell ⟨gS, j, none⟩ (.int .u8 (bits .xor .u8 yy xx))).ownsRow w.heap.size 5 1 (.slice a L c) L (cellsU8 (strL h key salt t1 q))) := owns_other (v := .slice (some ⟨gS, 0, none⟩) sz cS) HUj.out hst.2 HA10.out
              have HBn : Hid (Below w.heap.size w (wr.setCell ⟨gS, j, none⟩ (.int .u8 (bits .xor .u8 yy xx)))) := HBj.out.setCell (HOj.out.lt gS rfl).1 _
              clear hst hx hy HVj HOj HUj HBj
              go_wp2
              go_region
              all_goals go_wp2
              all_goals go_roundw
              all_goals first
                | (simp [intOf]; omega)
                | exact ⟨j + 1, by omega, by go_num, HVn, HOn.out.drew, HUn.out.drew, HBn.out.drew⟩
            · obtain rfl : j = sz := by omega
              have HOe : Hid (wr.ownsRow w.heap.size 5 1 (.slice (some ⟨gS, 0, none⟩) j cS) j (cellsU8 (stS h key x (r + 1)))) := by
                have q := HOj.out
                rw [mixL_end (HSl.out r) (HUl.out (r + 1))] at q
                exact q
              clear HOj
              go_wp2
              go_roundw
              case rel => exact ⟨r + 1, p + 1, gN, cN, (by show _ = _; have := hp.out; omega), by omega, by go_num, rfl, HVj, HG11, HOe, HUj, HBj⟩
              case measure => have := hp.out; simp [intOf]; omega
        · obtain rfl : r = t1 := by omega
          have hpT : ¬ ((p : Nat) : Int) < T := by have := hT1.out; have := hp.out; omega
          have HVs : Hid (View wr (.slice (some ⟨gS, 0, none⟩) sz cS) (stS h key x r)) := viewOwns HOr.out (HSl.out r)
          go_wp2_with (first | (at_builtin; go_must (refine wpList_append_view rfl (.tmp 75) (.tmp 76) rfl w.heap.size L (L + sz) (.slice a L c) (strL h key salt r q) rfl HUr.out (some ⟨gS, 0, none⟩) sz cS rfl (stS h key x r) HVs.out (HSl.out r) rfl (by omega) HBr.out.size ?_)))
          intro v20 w20 hown20 hgrow20 hat20
          obtain ⟨a20, c20, rfl⟩ := owns_slice hown20
          have HO20 : Hid (w20.ownsRow w.heap.size 5 1 (.slice a20 (L + sz) c20) (L + sz) (cellsU8 (strL h key salt r (q + 1)))) := by
            show World.ownsRow _ _ _ _ _ _ _
            rw [strL, strT_eq, ← HIq.out, ← HX.out]
            exact hown20
          have HB20 : Hid (Below w.heap.size w w20) := HBr.out.grown hgrow20 HBr.out.size (fun b hb => (HUr.out.lt b hb).1)
          have HI20 : Hid (i + 1 = q + 1 + 1) := by show _ = _; rw [HIq.out]
          have HL20 : Hid (L + sz = (q + 1) * sz) := by show _ = _; rw [HLq.out, Nat.succ_mul]
          clear hown20 hgrow20 hat20 HVs HUr HBr HVr HOr
          go_wp2
          go_roundw
          case rel => exact ⟨q + 1, i + 1, L + sz, c20, a20, HI20, HL20, by omega, by omega, by go_num, rfl, HO20, HB20⟩
          case measure => simp [intOf]; omega
    · have HNL : Hid (n ≤ L) := by show _ ≤ _; omega
      obtain ⟨g, c', hgc⟩ := owns_some HO.out (by omega)
      injection hgc with e1 e2 e3
      subst e1
      have HLe : Hid ((strL h key salt t1 q).length = L) := by show _ = _; rw [strL_length k.out, HLq.out, HSz.out]
      have HV : Hid (View wr (.slice (some ⟨g, 0, none⟩) L c) (strL h key salt t1 q)) := viewOwns HO.out HLe.out
      have hLc : L ≤ c ∧ c ≤ maxLen := by
        obtain ⟨_, _, e, q1, q2, _⟩ := HV.out
        injection e with e1 e2 e3
        have := HLe.out
        omega
      unfold maxLen at hLc
      clear e2 e3
      have d1 : ¬ ((L : Nat) : Int) < (n : Nat) := by omega
      go_wp2
      go_ret
      refine ⟨_, rfl, q, ?_, by have h1 := HNL.out; have h2 := HLq.out; rw [← HSz.out]; omega, (fun b hb => (HO.out.lt b hb).1), HB3.out⟩
      exact view_take HV.out HNL.out
end Go.Proofs.YtioggmjocelolacDoor
