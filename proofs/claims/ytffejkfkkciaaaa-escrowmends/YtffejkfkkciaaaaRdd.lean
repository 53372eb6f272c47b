import Derived.Test.YtffejkfkkciaaaaRdc
namespace Go.Proofs.Ytffejkfkkciaaaa
open Go.RowKit
set_option linter.unusedVariables false
set_option linter.unusedSimpArgs false
theorem two_cells (w : World) (x y : Value) (e : TypeId) : ∀ (j : Nat) (u : Value), [x, y][j]? = some u → (w.alloc (.cells #[x, y] e)).cell? ((⟨w.heap.size, 0, none⟩ : Addr).add j) = some u :=
  fun j u hu => World.news_of_block (w := w.alloc (.cells #[x, y] e)) (heap_alloc_new w _) j u (by simpa using hu)
theorem fc_two (v : Nat) : fc (twoF v) = [.int .u8 ((v / 256 % 256 : Nat) : Int), .int .u8 ((v % 256 : Nat) : Int)] := rfl
theorem wrap_two (v p : Int) (m : Int) (r : Int) (hv : -160000 < v ∧ v < 160000) (hp : -1 ≤ p ∧ p < 16) (hm : 0 ≤ m ∧ m ≤ 16) (hr : v * m + p = r) : wrap64 (wrap64 (v * m) + p) = r := by
  have h1 : v * m ≤ 160000 * m := Int.mul_le_mul_of_nonneg_right (by omega) hm.1
  have h2 : -160000 * m ≤ v * m := Int.mul_le_mul_of_nonneg_right (by omega) hm.1
  generalize v * m = x at *
  unfold wrap64
  omega
set_option maxHeartbeats 6400000 in
set_option maxRecDepth 100000 in
theorem read_ok (s : ByteArray) (hs : s.size ≤ 1024) (w : World) : Calls Try.prog 9 #[.string s] w fun e w' => ReadR s e w w' := by
  obtain ⟨l, HL⟩ : ∃ l, Hid (s.data.toList = l) := ⟨_, rfl⟩
  obtain ⟨n, HN⟩ : ∃ n, Hid (s.size = n) := ⟨_, rfl⟩
  have hl : (s.size : Int) = (n : Int) := by have := HN.out; omega
  have HLN : Hid (l.length = n ∧ n ≤ 1024) := ⟨by rw [← HL.out, ← Lib.size_eq]; exact HN.out, by rw [← HN.out]; exact hs⟩
  have HIX : Hid (∀ (k : Nat) u, k < n → (Instr.index 9 (.string s) (.int .i64 (k : Nat))).run Try.prog u = .ok (.int .u8 ((l.getD k 0).toNat : Nat)) u) := fun k u hk => by rw [← HL.out]; exact index_str s k (by rw [HN.out]; exact hk) u
  have HTX : Hid (txL s = wordsL [] l) := by unfold txL; rw [HL.out]; rfl
  have H17 : Hid (∀ c u, Calls Try.prog 17 #[.int .u8 (c : Nat)] u fun e w' => e = .returned (.bool (gapN c)) ∧ w' = u) := fun c u => rgap_ok c u
  have H18c : Hid (∀ c u, Calls Try.prog 18 #[.string conB, .int .u8 (c : Nat)] u fun e w' => e = .returned (.int .i64 (plc conL c)) ∧ w' = u) := fun c u => rplace_con c u
  have H18v : Hid (∀ c u, Calls Try.prog 18 #[.string vowB, .int .u8 (c : Nat)] u fun e w' => e = .returned (.int .i64 (plc vowL c)) ∧ w' = u) := fun c u => rplace_vow c u
  obtain ⟨i0, hi, hz0, hz1, hz2⟩ := info_parts Try.infoB
  obtain ⟨B, HB⟩ : ∃ B, Hid (w.heap.size = B) := ⟨_, rfl⟩
  clear hs HN HL
  go_enter Try.func9, Try.ntmps9
  go_wp2
  go_loopw [4, 5] (fun vo vi wr => ∃ (ov : Value) (i : Nat), vo = ov ∧ i ≤ n ∧ vi = .int .i64 (i : Nat) ∧ Hid (∃ dn : List (List UInt8), txL s = dn ++ wordsL [] (l.drop i) ∧ (∀ x, x ∈ dn → x.length = 5) ∧ dn.length ≤ i ∧ wr.ownsRow B 5 1 ov (saidW dn).length (fc (saidW dn)) ∧ Below B w wr)) (fun _ vi _ => n - (intOf vi).toNat)
  case atStart => exact ⟨_, 0, rfl, by omega, rfl, [], by rw [HTX.out]; rfl, fun x hx => by simp at hx, Nat.le_refl _, World.ownsRow_nil _ _ _ _, Below.refl _ _⟩
  case round =>
    obtain ⟨ov, i, hvs, hi', rfl, HI⟩ := hrel
    obtain rfl := hvs.symm
    by_cases hlt : i < n
    case neg =>
      obtain rfl : n = i := by omega
      have g2 : ¬ (n : Int) < (n : Int) := Int.lt_irrefl _
      have HQ : Hid (ReadR s (.returned (.tuple #[ov, .bool true])) w wr) := by
        obtain ⟨dn, q1, q2, q3, q4, q5⟩ := HI.out
        rw [show l.drop n = [] from List.drop_eq_nil_of_le (by rw [HLN.out.1]; exact Nat.le_refl _)] at q1
        have e : txL s = dn := by rw [q1]; show dn ++ (if ([] : List UInt8) = [] then [] else [[]]) = dn; rw [if_pos rfl, List.append_nil]
        refine ⟨Or.inr ⟨by rw [e]; exact q2, ov, rfl, ?_⟩, by rw [HB.out]; exact q5⟩
        rw [e, HB.out]
        exact q4
      clear HI hlt hi'
      go_wp2
      go_ret2
      exact HQ.out
    case pos =>
    have HK : Hid (i < n) := hlt
    have g1 : (i : Int) < (n : Int) := by omega
    have hix := fun u => HIX.out i u hlt
    obtain ⟨c, HC⟩ : ∃ c, Hid ((l.getD i 0).toNat = c) := ⟨_, rfl⟩
    rw [HC.out] at hix
    have HGC : Hid (gapU (l.getD i 0) = gapN c) := by unfold gapU; rw [HC.out]; rfl
    have wn : IntKind.i64.wrap ((i : Int) + 1) = ((i + 1 : Nat) : Int) := by have := HLN.out; rw [IntKind.wrap_i64]; omega
    obtain ⟨gp, HGP⟩ : ∃ b, Hid (gapN c = b) := ⟨_, rfl⟩
    clear hlt hi'
    cases gp with
    | true =>
      have HNX : Hid (∃ dn : List (List UInt8), txL s = dn ++ wordsL [] (l.drop (i + 1)) ∧ (∀ x, x ∈ dn → x.length = 5) ∧ dn.length ≤ i + 1 ∧ wr.ownsRow B 5 1 ov (saidW dn).length (fc (saidW dn)) ∧ Below B w wr) := by
        obtain ⟨dn, q1, q2, q3, q4, q5⟩ := HI.out
        exact ⟨dn, by rw [q1, words_gap l i (by rw [HLN.out.1]; exact HK.out) (by rw [HGC.out, HGP.out])], q2, by omega, q4, q5⟩
      go_wp2_with (go_at_call 17; refine (H17.out c _).mono ?_; rintro e1 w1 ⟨rfl, hw⟩; obtain rfl := hw.symm; clear hw; rw [HGP.out])
      have e0 := HK.out
      refine ⟨⟨ov, i + 1, by rfl, by omega, by first | rfl | (simp; done), HNX.out⟩, ?_⟩
      simp [intOf]
      omega
    | false =>
      go_upto_region 6 with (go_at_call 17; refine (H17.out c _).mono ?_; rintro e1 w1 ⟨rfl, hw⟩; obtain rfl := hw.symm; clear hw; rw [HGP.out])
      clear hix wn
      go_wp2
      go_loopw [5] (fun ve wq => ∃ e : Nat, i ≤ e ∧ e ≤ n ∧ ve = .int .i64 (e : Nat) ∧ Hid ((∀ j, i ≤ j → j < e → gapU (l.getD j 0) = false) ∧ wq = wr)) (fun ve _ => n - (intOf ve).toNat)
      case atStart => exact ⟨i, Nat.le_refl _, Nat.le_of_lt HK.out, rfl, fun j h1 h2 => absurd h1 (by omega), rfl⟩
      case round =>
        obtain ⟨e, hie, hen, rfl, HE⟩ := hrel
        have hEW := HE.out.2
        obtain rfl := hEW.symm
        clear hEW
        have HEN : Hid (i ≤ e ∧ e ≤ n) := ⟨hie, hen⟩
        by_cases hgo : e < n ∧ gapU (l.getD e 0) = false
        case pos =>
          have ge : (e : Int) < (n : Int) := by omega
          have hix := fun u => HIX.out e u hgo.1
          obtain ⟨d, HD⟩ : ∃ c, Hid ((l.getD e 0).toNat = c) := ⟨_, rfl⟩
          rw [HD.out] at hix
          have HGD : Hid (gapN d = false) := by have q := hgo.2; unfold gapU at q; rw [HD.out] at q; exact q
          have HNX : Hid (∀ j, i ≤ j → j < e + 1 → gapU (l.getD j 0) = false) := fun j h1 h2 => by
            by_cases q : j = e
            · rw [q]; exact hgo.2
            · exact HE.out.1 j h1 (by omega)
          have we : IntKind.i64.wrap ((e : Int) + 1) = ((e + 1 : Nat) : Int) := by have := HLN.out; rw [IntKind.wrap_i64]; omega
          have HLT : Hid (e < n) := hgo.1
          clear hgo hie hen
          go_wp2_with (go_at_call 17; refine (H17.out d _).mono ?_; rintro e1 w1 ⟨rfl, hw⟩; obtain rfl := hw.symm; clear hw; rw [HGD.out])
          have e0 := HLT.out
          have e1 := HEN.out
          refine ⟨⟨e + 1, by omega, by omega, by first | rfl | (simp; done), HNX.out, by trivial⟩, ?_⟩
          simp [intOf]
          omega
        case neg =>
          have HIE : Hid (i < e) := by
            show i < e
            rcases Nat.lt_or_ge i e with q | q
            · exact q
            · exfalso
              have q2 : e = i := by have := HEN.out; omega
              exact hgo ⟨by rw [q2]; exact HK.out, by rw [q2, HGC.out]; exact HGP.out⟩
          have HPW : Hid (wordsL [] (l.drop i) = Lib.pieceU l i e :: wordsL [] (l.drop e)) := words_word l i e HIE.out (by rw [HLN.out.1]; exact HEN.out.2) HE.out.1 (fun h => by
            rw [HLN.out.1] at h
            cases q : gapU (l.getD e 0) with
            | true => rfl
            | false => exact absurd ⟨h, q⟩ hgo)
          have HPL : Hid ((Lib.pieceU l i e).length = e - i) := piece_len l i e (by rw [HLN.out.1]; exact HEN.out.2)
          obtain ⟨m, HM⟩ : ∃ m, Hid (e - i = m) := ⟨_, rfl⟩
          have wm : IntKind.i64.wrap ((e : Int) - (i : Int)) = (m : Int) := by have := HLN.out; have := HM.out; have := HEN.out; rw [IntKind.wrap_i64]; omega
          by_cases hend : e < n
          case pos =>
            have ge : (e : Int) < (n : Int) := by omega
            have hix := fun u => HIX.out e u hend
            obtain ⟨d, HD⟩ : ∃ c, Hid ((l.getD e 0).toNat = c) := ⟨_, rfl⟩
            rw [HD.out] at hix
            have HGD : Hid (gapN d = true) := by
              show gapN d = true
              cases q : gapN d with
              | true => rfl
              | false => exact absurd ⟨hend, by unfold gapU; rw [HD.out]; exact q⟩ hgo
            clear hgo hie hen hend
            go_upto_region 9 with (go_at_call 17; refine (H17.out d _).mono ?_; rintro e1 w1 ⟨rfl, hw⟩; obtain rfl := hw.symm; clear hw; rw [HGD.out])
            clear ge hix
            by_cases h5 : m = 5
            case neg =>
              have g5 : ((m : Int) != 5) = true := by rw [bne_iff_ne]; omega
              have HQ : Hid (ReadR s (.returned (.tuple #[.slice none 0 0, .bool false])) w wr) := by
                obtain ⟨dn, q1, q2, q3, q4, q5⟩ := HI.out
                refine ⟨Or.inl ⟨fun h => h5 ?_, rfl⟩, by rw [HB.out]; exact q5⟩
                rw [← HM.out, ← HPL.out]
                exact h _ (by rw [q1, HPW.out]; simp)
              clear h5
              go_wp2
              go_ret2
              exact HQ.out
            case pos =>
            have g5 : ((m : Int) != 5) = false := by rw [h5]; rfl
            have HM5 : Hid (m = 5 ∧ e = i + 5) := ⟨h5, by have := HM.out; have := HIE.out; omega⟩
            clear h5
            go_wp2
            go_loopw [7, 8, 9] (fun vv vb vk wq => ∃ (v : Int) (b : Bool) (k : Nat), k ≤ 5 ∧ vv = .int .i64 v ∧ vb = .bool b ∧ vk = .int .i64 (k : Nat) ∧ Hid (WV (Lib.pieceU l i e) k v b ∧ wq = wr)) (fun _ _ vk _ => 5 - (intOf vk).toNat)
            case atStart => exact ⟨0, true, 0, by omega, rfl, rfl, rfl, ⟨Or.inl ⟨rfl, 0, rfl, rfl⟩, by decide, by decide⟩, rfl⟩
            case round =>
              obtain ⟨v, bb, k, hk5, rfl, rfl, rfl, HV⟩ := hrel
              have hVW := HV.out.2
              obtain rfl := hVW.symm
              clear hVW
              by_cases hk : k < 5
              case pos =>
                have HKK : Hid (k < 5) := hk
                have gk : (k : Int) < 5 := by omega
                obtain ⟨a, HA⟩ : ∃ a, Hid (i + k = a) := ⟨_, rfl⟩
                have HAN : Hid (a < n ∧ a < e) := by have := HA.out; have := HM5.out; have := HEN.out; exact ⟨by omega, by omega⟩
                have wa : IntKind.i64.wrap ((i : Int) + (k : Int)) = (a : Int) := by have := HA.out; have := HLN.out; have := HAN.out; rw [IntKind.wrap_i64]; omega
                have hix := fun u => HIX.out a u HAN.out.1
                obtain ⟨d, HD⟩ : ∃ c, Hid ((l.getD a 0).toNat = c) := ⟨_, rfl⟩
                have hd : d < 256 := by rw [← HD.out]; exact UInt8.toNat_lt _
                rw [HD.out] at hix
                obtain ⟨z, HZ⟩ : ∃ z, Hid (smallN d = z) := ⟨_, rfl⟩
                have HWG : Hid (((Lib.pieceU l i e).getD k 0).toNat = d) := by
                  show _ = _
                  rw [piece_at l i e k (by rw [HA.out]; exact HAN.out.2), HA.out]
                  exact HD.out
                have wn : IntKind.i64.wrap ((k : Int) + 1) = ((k + 1 : Nat) : Int) := by rw [IntKind.wrap_i64]; omega
                have HB4 : Hid (-160000 < v ∧ v < 160000) := by
                  obtain ⟨_, q2, q3⟩ := HV.out.1
                  have := pow_le4 k (by omega)
                  exact ⟨by omega, by omega⟩
                have hkk : k % 2 = 0 ∨ k % 2 = 1 := by omega
                clear hk hk5
                rcases hkk with hm | hm
                · have HML : Hid (letL k = conL ∧ (conL).length = 16) := ⟨by unfold letL; rw [if_neg (by omega)], rfl⟩
                  have r0 : (k : Int).tmod 2 = 0 := by rw [Int.tmod_eq_emod_of_nonneg (by omega)]; omega
                  obtain ⟨p, HP⟩ : ∃ p, Hid (plc conL z = p) := ⟨_, rfl⟩
                  have HNV : Hid (WV (Lib.pieceU l i e) (k + 1) (v * 16 + p) (bb && decide (0 ≤ p))) := HV.out.1.next HKK.out 16 (by rw [HML.out.1]; exact HML.out.2) p (by rw [HML.out.1, HWG.out, HZ.out]; exact HP.out)
                  have hpb := plc_lt conL z
                  rw [HP.out, HML.out.2] at hpb
                  have HPB : Hid (-1 ≤ p ∧ p < 16) := ⟨hpb.1, by omega⟩
                  have m1 : IntKind.i64.wrap (v * 16) = v * 16 := by have := HB4.out; rw [IntKind.wrap_i64]; omega
                  obtain ⟨vm, HVM⟩ : ∃ x, Hid (v * 16 = x) := ⟨_, rfl⟩
                  rw [HVM.out] at m1
                  have m2 : IntKind.i64.wrap (vm + p) = vm + p := by have := HVM.out; have := HB4.out; have := HPB.out; rw [IntKind.wrap_i64]; omega
                  obtain ⟨vp, HVP⟩ : ∃ x, Hid (vm + p = x) := ⟨_, rfl⟩
                  rw [HVP.out] at m2
                  rw [HVM.out, HVP.out] at HNV
                  have HWV : Hid (wrap64 (wrap64 (v * 16) + p) = vp) := wrap_two v p 16 vp HB4.out HPB.out (by decide) (by rw [HVM.out]; exact HVP.out)
                  obtain ⟨pb, HPP⟩ : ∃ b : Bool, Hid (decide (0 ≤ p) = b) := ⟨_, rfl⟩
                  clear m1 m2
                  clear hpb hm
                  by_cases hc0 : d < 65
                  case pos =>
                    have HZD : Hid (z = d) := by show z = d; rw [← HZ.out]; unfold smallN; exact if_neg (by omega)
                    have gc0 : ¬ (65 : Int) ≤ (d : Int) := by omega
                    rw [HZD.out] at HP
                    clear hc0 hd
                    cases bb with
                    | false =>
                      go_wp2_with (first | (go_at_call 18; refine (H18c.out d _).mono ?_; rintro e1 w1 ⟨rfl, hw⟩; obtain rfl := hw.symm; clear hw; rw [HP.out]))
                      have e0 := HKK.out
                      refine ⟨⟨vp, _, k + 1, by omega, by first | rfl | (rw [HWV.out]) | (simp; done), rfl, by first | rfl | (simp; done), (by first | exact HNV.out | (rw [HPP.out] at HNV; exact HNV.out)), by trivial⟩, ?_⟩
                      simp [intOf]
                      omega
                    | true =>
                      cases pb with
                      | false =>
                        have gp0 : ¬ (0 : Int) ≤ p := of_decide_eq_false HPP.out
                        go_wp2_with (first | (go_at_call 18; refine (H18c.out d _).mono ?_; rintro e1 w1 ⟨rfl, hw⟩; obtain rfl := hw.symm; clear hw; rw [HP.out]))
                        have e0 := HKK.out
                        refine ⟨⟨vp, _, k + 1, by omega, by first | rfl | (rw [HWV.out]) | (simp; done), rfl, by first | rfl | (simp; done), (by first | exact HNV.out | (rw [HPP.out] at HNV; exact HNV.out)), by trivial⟩, ?_⟩
                        simp [intOf]
                        omega
                      | true =>
                        have gp0 : (0 : Int) ≤ p := of_decide_eq_true HPP.out
                        go_wp2_with (first | (go_at_call 18; refine (H18c.out d _).mono ?_; rintro e1 w1 ⟨rfl, hw⟩; obtain rfl := hw.symm; clear hw; rw [HP.out]))
                        have e0 := HKK.out
                        refine ⟨⟨vp, _, k + 1, by omega, by first | rfl | (rw [HWV.out]) | (simp; done), rfl, by first | rfl | (simp; done), (by first | exact HNV.out | (rw [HPP.out] at HNV; exact HNV.out)), by trivial⟩, ?_⟩
                        simp [intOf]
                        omega
                  case neg =>
                  by_cases hc1 : 90 < d
                  case pos =>
                    have HZD : Hid (z = d) := by show z = d; rw [← HZ.out]; unfold smallN; exact if_neg (by omega)
                    have gc0 : (65 : Int) ≤ (d : Int) := by omega
                    have gc1 : ¬ (d : Int) ≤ 90 := by omega
                    rw [HZD.out] at HP
                    clear hc0 hc1 hd
                    cases bb with
                    | false =>
                      go_wp2_with (first | (go_at_call 18; refine (H18c.out d _).mono ?_; rintro e1 w1 ⟨rfl, hw⟩; obtain rfl := hw.symm; clear hw; rw [HP.out]))
                      have e0 := HKK.out
                      refine ⟨⟨vp, _, k + 1, by omega, by first | rfl | (rw [HWV.out]) | (simp; done), rfl, by first | rfl | (simp; done), (by first | exact HNV.out | (rw [HPP.out] at HNV; exact HNV.out)), by trivial⟩, ?_⟩
                      simp [intOf]
                      omega
                    | true =>
                      cases pb with
                      | false =>
                        have gp0 : ¬ (0 : Int) ≤ p := of_decide_eq_false HPP.out
                        go_wp2_with (first | (go_at_call 18; refine (H18c.out d _).mono ?_; rintro e1 w1 ⟨rfl, hw⟩; obtain rfl := hw.symm; clear hw; rw [HP.out]))
                        have e0 := HKK.out
                        refine ⟨⟨vp, _, k + 1, by omega, by first | rfl | (rw [HWV.out]) | (simp; done), rfl, by first | rfl | (simp; done), (by first | exact HNV.out | (rw [HPP.out] at HNV; exact HNV.out)), by trivial⟩, ?_⟩
                        simp [intOf]
                        omega
                      | true =>
                        have gp0 : (0 : Int) ≤ p := of_decide_eq_true HPP.out
                        go_wp2_with (first | (go_at_call 18; refine (H18c.out d _).mono ?_; rintro e1 w1 ⟨rfl, hw⟩; obtain rfl := hw.symm; clear hw; rw [HP.out]))
                        have e0 := HKK.out
                        refine ⟨⟨vp, _, k + 1, by omega, by first | rfl | (rw [HWV.out]) | (simp; done), rfl, by first | rfl | (simp; done), (by first | exact HNV.out | (rw [HPP.out] at HNV; exact HNV.out)), by trivial⟩, ?_⟩
                        simp [intOf]
                        omega
                  case neg =>
                  have HZD : Hid (z = d + 32) := by show z = _; rw [← HZ.out]; unfold smallN; exact if_pos (by omega)
                  have gc0 : (65 : Int) ≤ (d : Int) := by omega
                  have gc1 : (d : Int) ≤ 90 := by omega
                  have wz : IntKind.u8.wrap ((d : Int) + 32) = (z : Int) := by rw [show (d : Int) + 32 = (z : Int) by have := HZD.out; omega]; exact wraps_u8 _ (by omega) (by have := HZD.out; omega)
                  clear hc0 hc1 hd
                  cases bb with
                  | false =>
                    go_wp2_with (first | (go_at_call 18; refine (H18c.out z _).mono ?_; rintro e1 w1 ⟨rfl, hw⟩; obtain rfl := hw.symm; clear hw; rw [HP.out]))
                    have e0 := HKK.out
                    refine ⟨⟨vp, _, k + 1, by omega, by first | rfl | (rw [HWV.out]) | (simp; done), rfl, by first | rfl | (simp; done), (by first | exact HNV.out | (rw [HPP.out] at HNV; exact HNV.out)), by trivial⟩, ?_⟩
                    simp [intOf]
                    omega
                  | true =>
                    cases pb with
                    | false =>
                      have gp0 : ¬ (0 : Int) ≤ p := of_decide_eq_false HPP.out
                      go_wp2_with (first | (go_at_call 18; refine (H18c.out z _).mono ?_; rintro e1 w1 ⟨rfl, hw⟩; obtain rfl := hw.symm; clear hw; rw [HP.out]))
                      have e0 := HKK.out
                      refine ⟨⟨vp, _, k + 1, by omega, by first | rfl | (rw [HWV.out]) | (simp; done), rfl, by first | rfl | (simp; done), (by first | exact HNV.out | (rw [HPP.out] at HNV; exact HNV.out)), by trivial⟩, ?_⟩
                      simp [intOf]
                      omega
                    | true =>
                      have gp0 : (0 : Int) ≤ p := of_decide_eq_true HPP.out
                      go_wp2_with (first | (go_at_call 18; refine (H18c.out z _).mono ?_; rintro e1 w1 ⟨rfl, hw⟩; obtain rfl := hw.symm; clear hw; rw [HP.out]))
                      have e0 := HKK.out
                      refine ⟨⟨vp, _, k + 1, by omega, by first | rfl | (rw [HWV.out]) | (simp; done), rfl, by first | rfl | (simp; done), (by first | exact HNV.out | (rw [HPP.out] at HNV; exact HNV.out)), by trivial⟩, ?_⟩
                      simp [intOf]
                      omega
                · have HML : Hid (letL k = vowL ∧ (vowL).length = 4) := ⟨by unfold letL; rw [if_pos hm], rfl⟩
                  have r0 : (k : Int).tmod 2 = 1 := by rw [Int.tmod_eq_emod_of_nonneg (by omega)]; omega
                  obtain ⟨p, HP⟩ : ∃ p, Hid (plc vowL z = p) := ⟨_, rfl⟩
                  have HNV : Hid (WV (Lib.pieceU l i e) (k + 1) (v * 4 + p) (bb && decide (0 ≤ p))) := HV.out.1.next HKK.out 4 (by rw [HML.out.1]; exact HML.out.2) p (by rw [HML.out.1, HWG.out, HZ.out]; exact HP.out)
                  have hpb := plc_lt vowL z
                  rw [HP.out, HML.out.2] at hpb
                  have HPB : Hid (-1 ≤ p ∧ p < 16) := ⟨hpb.1, by omega⟩
                  have m1 : IntKind.i64.wrap (v * 4) = v * 4 := by have := HB4.out; rw [IntKind.wrap_i64]; omega
                  obtain ⟨vm, HVM⟩ : ∃ x, Hid (v * 4 = x) := ⟨_, rfl⟩
                  rw [HVM.out] at m1
                  have m2 : IntKind.i64.wrap (vm + p) = vm + p := by have := HVM.out; have := HB4.out; have := HPB.out; rw [IntKind.wrap_i64]; omega
                  obtain ⟨vp, HVP⟩ : ∃ x, Hid (vm + p = x) := ⟨_, rfl⟩
                  rw [HVP.out] at m2
                  rw [HVM.out, HVP.out] at HNV
                  have HWV : Hid (wrap64 (wrap64 (v * 4) + p) = vp) := wrap_two v p 4 vp HB4.out HPB.out (by decide) (by rw [HVM.out]; exact HVP.out)
                  obtain ⟨pb, HPP⟩ : ∃ b : Bool, Hid (decide (0 ≤ p) = b) := ⟨_, rfl⟩
                  clear m1 m2
                  clear hpb hm
                  by_cases hc0 : d < 65
                  case pos =>
                    have HZD : Hid (z = d) := by show z = d; rw [← HZ.out]; unfold smallN; exact if_neg (by omega)
                    have gc0 : ¬ (65 : Int) ≤ (d : Int) := by omega
                    rw [HZD.out] at HP
                    clear hc0 hd
                    cases bb with
                    | false =>
                      go_wp2_with (first | (go_at_call 18; refine (H18v.out d _).mono ?_; rintro e1 w1 ⟨rfl, hw⟩; obtain rfl := hw.symm; clear hw; rw [HP.out]))
                      have e0 := HKK.out
                      refine ⟨⟨vp, _, k + 1, by omega, by first | rfl | (rw [HWV.out]) | (simp; done), rfl, by first | rfl | (simp; done), (by first | exact HNV.out | (rw [HPP.out] at HNV; exact HNV.out)), by trivial⟩, ?_⟩
                      simp [intOf]
                      omega
                    | true =>
                      cases pb with
                      | false =>
                        have gp0 : ¬ (0 : Int) ≤ p := of_decide_eq_false HPP.out
                        go_wp2_with (first | (go_at_call 18; refine (H18v.out d _).mono ?_; rintro e1 w1 ⟨rfl, hw⟩; obtain rfl := hw.symm; clear hw; rw [HP.out]))
                        have e0 := HKK.out
                        refine ⟨⟨vp, _, k + 1, by omega, by first | rfl | (rw [HWV.out]) | (simp; done), rfl, by first | rfl | (simp; done), (by first | exact HNV.out | (rw [HPP.out] at HNV; exact HNV.out)), by trivial⟩, ?_⟩
                        simp [intOf]
                        omega
                      | true =>
                        have gp0 : (0 : Int) ≤ p := of_decide_eq_true HPP.out
                        go_wp2_with (first | (go_at_call 18; refine (H18v.out d _).mono ?_; rintro e1 w1 ⟨rfl, hw⟩; obtain rfl := hw.symm; clear hw; rw [HP.out]))
                        have e0 := HKK.out
                        refine ⟨⟨vp, _, k + 1, by omega, by first | rfl | (rw [HWV.out]) | (simp; done), rfl, by first | rfl | (simp; done), (by first | exact HNV.out | (rw [HPP.out] at HNV; exact HNV.out)), by trivial⟩, ?_⟩
                        simp [intOf]
                        omega
                  case neg =>
                  by_cases hc1 : 90 < d
                  case pos =>
                    have HZD : Hid (z = d) := by show z = d; rw [← HZ.out]; unfold smallN; exact if_neg (by omega)
                    have gc0 : (65 : Int) ≤ (d : Int) := by omega
                    have gc1 : ¬ (d : Int) ≤ 90 := by omega
                    rw [HZD.out] at HP
                    clear hc0 hc1 hd
                    cases bb with
                    | false =>
                      go_wp2_with (first | (go_at_call 18; refine (H18v.out d _).mono ?_; rintro e1 w1 ⟨rfl, hw⟩; obtain rfl := hw.symm; clear hw; rw [HP.out]))
                      have e0 := HKK.out
                      refine ⟨⟨vp, _, k + 1, by omega, by first | rfl | (rw [HWV.out]) | (simp; done), rfl, by first | rfl | (simp; done), (by first | exact HNV.out | (rw [HPP.out] at HNV; exact HNV.out)), by trivial⟩, ?_⟩
                      simp [intOf]
                      omega
                    | true =>
                      cases pb with
                      | false =>
                        have gp0 : ¬ (0 : Int) ≤ p := of_decide_eq_false HPP.out
                        go_wp2_with (first | (go_at_call 18; refine (H18v.out d _).mono ?_; rintro e1 w1 ⟨rfl, hw⟩; obtain rfl := hw.symm; clear hw; rw [HP.out]))
                        have e0 := HKK.out
                        refine ⟨⟨vp, _, k + 1, by omega, by first | rfl | (rw [HWV.out]) | (simp; done), rfl, by first | rfl | (simp; done), (by first | exact HNV.out | (rw [HPP.out] at HNV; exact HNV.out)), by trivial⟩, ?_⟩
                        simp [intOf]
                        omega
                      | true =>
                        have gp0 : (0 : Int) ≤ p := of_decide_eq_true HPP.out
                        go_wp2_with (first | (go_at_call 18; refine (H18v.out d _).mono ?_; rintro e1 w1 ⟨rfl, hw⟩; obtain rfl := hw.symm; clear hw; rw [HP.out]))
                        have e0 := HKK.out
                        refine ⟨⟨vp, _, k + 1, by omega, by first | rfl | (rw [HWV.out]) | (simp; done), rfl, by first | rfl | (simp; done), (by first | exact HNV.out | (rw [HPP.out] at HNV; exact HNV.out)), by trivial⟩, ?_⟩
                        simp [intOf]
                        omega
                  case neg =>
                  have HZD : Hid (z = d + 32) := by show z = _; rw [← HZ.out]; unfold smallN; exact if_pos (by omega)
                  have gc0 : (65 : Int) ≤ (d : Int) := by omega
                  have gc1 : (d : Int) ≤ 90 := by omega
                  have wz : IntKind.u8.wrap ((d : Int) + 32) = (z : Int) := by rw [show (d : Int) + 32 = (z : Int) by have := HZD.out; omega]; exact wraps_u8 _ (by omega) (by have := HZD.out; omega)
                  clear hc0 hc1 hd
                  cases bb with
                  | false =>
                    go_wp2_with (first | (go_at_call 18; refine (H18v.out z _).mono ?_; rintro e1 w1 ⟨rfl, hw⟩; obtain rfl := hw.symm; clear hw; rw [HP.out]))
                    have e0 := HKK.out
                    refine ⟨⟨vp, _, k + 1, by omega, by first | rfl | (rw [HWV.out]) | (simp; done), rfl, by first | rfl | (simp; done), (by first | exact HNV.out | (rw [HPP.out] at HNV; exact HNV.out)), by trivial⟩, ?_⟩
                    simp [intOf]
                    omega
                  | true =>
                    cases pb with
                    | false =>
                      have gp0 : ¬ (0 : Int) ≤ p := of_decide_eq_false HPP.out
                      go_wp2_with (first | (go_at_call 18; refine (H18v.out z _).mono ?_; rintro e1 w1 ⟨rfl, hw⟩; obtain rfl := hw.symm; clear hw; rw [HP.out]))
                      have e0 := HKK.out
                      refine ⟨⟨vp, _, k + 1, by omega, by first | rfl | (rw [HWV.out]) | (simp; done), rfl, by first | rfl | (simp; done), (by first | exact HNV.out | (rw [HPP.out] at HNV; exact HNV.out)), by trivial⟩, ?_⟩
                      simp [intOf]
                      omega
                    | true =>
                      have gp0 : (0 : Int) ≤ p := of_decide_eq_true HPP.out
                      go_wp2_with (first | (go_at_call 18; refine (H18v.out z _).mono ?_; rintro e1 w1 ⟨rfl, hw⟩; obtain rfl := hw.symm; clear hw; rw [HP.out]))
                      have e0 := HKK.out
                      refine ⟨⟨vp, _, k + 1, by omega, by first | rfl | (rw [HWV.out]) | (simp; done), rfl, by first | rfl | (simp; done), (by first | exact HNV.out | (rw [HPP.out] at HNV; exact HNV.out)), by trivial⟩, ?_⟩
                      simp [intOf]
                      omega
              case neg =>
                obtain rfl : k = 5 := by omega
                obtain ⟨y, HY⟩ : ∃ y, Hid (wordN (Lib.pieceU l i e) = y) := ⟨_, rfl⟩
                have HYL : Hid (y < 65536) := by show y < 65536; rw [← HY.out]; exact wordN_lt _
                obtain ⟨dn, qq1, qq2, qq3, qq4, qq5⟩ := HI.out
                obtain ⟨nn, HNL⟩ : ∃ n, Hid ((saidW dn).length = n) := ⟨_, rfl⟩
                have HNS : Hid (nn ≤ 2048) := by show nn ≤ 2048; rw [← HNL.out, saidW_length]; have := HK.out; have := HLN.out; omega
                have HO : Hid (wr.ownsRow B 5 1 ov nn (fc (saidW dn)) ∧ Below B w wr ∧ B ≤ wr.heap.size) := ⟨by rw [← HNL.out]; exact qq4, qq5, by rw [← HB.out]; exact Nat.le_trans (by rw [HB.out]; exact Nat.le_refl _) qq5.size⟩
                have HNX : Hid (∀ (v2 : Value) (u : World), u.ownsRow B 5 1 v2 (nn + 2) (fc (saidW dn) ++ fc (twoF y)) → Below B w u → ∃ dn : List (List UInt8), txL s = dn ++ wordsL [] (l.drop e) ∧ (∀ x, x ∈ dn → x.length = 5) ∧ dn.length ≤ e ∧ u.ownsRow B 5 1 v2 (saidW dn).length (fc (saidW dn)) ∧ Below B w u) := fun v2 u ho hb => by
                  have hsa : saidW (dn ++ [Lib.pieceU l i e]) = saidW dn ++ twoF y := by rw [saidW_append, ← HY.out]; show _ ++ (twoF _ ++ []) = _; rw [List.append_nil]
                  refine ⟨dn ++ [Lib.pieceU l i e], by rw [qq1, HPW.out]; simp, fun x hx => ?_, by have := HIE.out; simp; omega, ?_, hb⟩
                  · rw [List.mem_append] at hx
                    rcases hx with hx | hx
                    · exact qq2 x hx
                    · rw [List.mem_singleton] at hx; rw [hx, HPL.out, HM.out, HM5.out.1]
                  · rw [hsa, List.length_append, HNL.out, show fc (saidW dn ++ twoF y) = fc (saidW dn) ++ fc (twoF y) by simp [fc]]
                    exact ho
                have HBV : Hid (bb = true ∧ v = (y : Nat) ∨ bb = false ∧ y = 0) := by
                  obtain ⟨q1, _, _⟩ := HV.out.1
                  rcases q1 with ⟨q1, u, q2, q3⟩ | ⟨q1, q2⟩
                  · left
                    refine ⟨q1, ?_⟩
                    rw [q3, ← HY.out]
                    unfold wordN
                    rw [q2]
                    rfl
                  · right
                    refine ⟨q1, ?_⟩
                    rw [← HY.out]
                    unfold wordN
                    rw [q2]
                    rfl
                clear qq1 qq2 qq3 qq4 qq5 hk hk5
                rcases HBV.out with ⟨hb1, hv1⟩ | ⟨hb1, hy0⟩
                · subst hb1
                  subst hv1
                  obtain ⟨A0, HA0⟩ : ∃ x, Hid (y / 256 = x) := ⟨_, rfl⟩
                  obtain ⟨A1, HA1⟩ : ∃ x, Hid (y % 256 = x) := ⟨_, rfl⟩
                  have t1 : (y : Int).tdiv 256 = (A0 : Int) := by rw [Int.tdiv_eq_ediv_of_nonneg (by omega)]; have := HA0.out; omega
                  have t1b : IntKind.i64.wrap (A0 : Int) = (A0 : Int) := by have := HA0.out; have := HYL.out; rw [IntKind.wrap_i64]; omega
                  have t2 : (y : Int).tmod 256 = (A1 : Int) := by rw [Int.tmod_eq_emod_of_nonneg (by omega)]; have := HA1.out; omega
                  have t3 : IntKind.u8.wrap (A0 : Int) = (A0 : Int) := wraps_u8 _ (by omega) (by have := HA0.out; have := HYL.out; omega)
                  have t4 : IntKind.u8.wrap (A1 : Int) = (A1 : Int) := wraps_u8 _ (by omega) (by have := HA1.out; omega)
                  have HCE : Hid (fc (twoF y) = [Value.int .u8 (A0 : Nat), .int .u8 (A1 : Nat)]) := by show _ = _; rw [fc_two, HA1.out, show y / 256 % 256 = A0 by have := HA0.out; have := HYL.out; omega]
                  go_wp2_with (first
                    | (at_builtin; go_must (refine wpList_append_own _ rfl (.tmp 85) (.tmp 92) 25 rfl B 5 i0 (.int .u8 0) 1 1 Try.underlying25 hi hz0 hz1 hz2 rfl (by decide) _ nn _ rfl (HO.out.1.alloc _) ⟨wr.heap.size, 0, none⟩ 2 2 [Value.int .u8 (A0 : Nat), .int .u8 (A1 : Nat)] rfl rfl (two_cells wr _ _ 5) (by rw [← HCE.out]; exact fc_one _) (by have := HNS.out; unfold maxLen; omega) (by have := HNS.out; omega) (by have := HO.out.2.2; simp; omega) ?_; intro v2 w5 hown hgrow hnil; have HX : Hid (w5.ownsRow B 5 1 v2 (nn + 2) (fc (saidW dn) ++ fc (twoF y)) ∧ Below B w w5) := ⟨by rw [HCE.out]; exact hown, (HO.out.2.1.alloc HO.out.2.2 _).grown hgrow (by have := HO.out.2.2; simp; omega) (fun q hq => (HO.out.1.lt q hq).1)⟩; clear hown hgrow hnil)))
                  have e0 := HIE.out
                  have e1 := HEN.out
                  refine ⟨⟨v2, e, by rfl, by omega, by first | rfl | (simp; done), HNX.out v2 w5 HX.out.1 HX.out.2⟩, ?_⟩
                  simp [intOf]
                  omega
                · subst hb1
                  subst hy0
                  have HCE : Hid (fc (twoF 0) = [Value.int .u8 0, .int .u8 0]) := rfl
                  go_wp2_with (first
                    | (at_builtin; go_must (refine wpList_append_own _ rfl (.tmp 85) (.tmp 92) 25 rfl B 5 i0 (.int .u8 0) 1 1 Try.underlying25 hi hz0 hz1 hz2 rfl (by decide) _ nn _ rfl (HO.out.1.alloc _) ⟨wr.heap.size, 0, none⟩ 2 2 [Value.int .u8 0, .int .u8 0] rfl rfl (two_cells wr _ _ 5) (by rw [← HCE.out]; exact fc_one _) (by have := HNS.out; unfold maxLen; omega) (by have := HNS.out; omega) (by have := HO.out.2.2; simp; omega) ?_; intro v2 w5 hown hgrow hnil; have HX : Hid (w5.ownsRow B 5 1 v2 (nn + 2) (fc (saidW dn) ++ fc (twoF 0)) ∧ Below B w w5) := ⟨by rw [HCE.out]; exact hown, (HO.out.2.1.alloc HO.out.2.2 _).grown hgrow (by have := HO.out.2.2; simp; omega) (fun q hq => (HO.out.1.lt q hq).1)⟩; clear hown hgrow hnil)))
                  have e0 := HIE.out
                  have e1 := HEN.out
                  refine ⟨⟨v2, e, by rfl, by omega, by first | rfl | (simp; done), HNX.out v2 w5 HX.out.1 HX.out.2⟩, ?_⟩
                  simp [intOf]
                  omega
          case neg =>
            have ge : ¬ (e : Int) < (n : Int) := by omega
            clear hgo hie hen hend
            go_upto_region 9 with fail
            clear ge
            by_cases h5 : m = 5
            case neg =>
              have g5 : ((m : Int) != 5) = true := by rw [bne_iff_ne]; omega
              have HQ : Hid (ReadR s (.returned (.tuple #[.slice none 0 0, .bool false])) w wr) := by
                obtain ⟨dn, q1, q2, q3, q4, q5⟩ := HI.out
                refine ⟨Or.inl ⟨fun h => h5 ?_, rfl⟩, by rw [HB.out]; exact q5⟩
                rw [← HM.out, ← HPL.out]
                exact h _ (by rw [q1, HPW.out]; simp)
              clear h5
              go_wp2
              go_ret2
              exact HQ.out
            case pos =>
            have g5 : ((m : Int) != 5) = false := by rw [h5]; rfl
            have HM5 : Hid (m = 5 ∧ e = i + 5) := ⟨h5, by have := HM.out; have := HIE.out; omega⟩
            clear h5
            go_wp2
            go_loopw [7, 8, 9] (fun vv vb vk wq => ∃ (v : Int) (b : Bool) (k : Nat), k ≤ 5 ∧ vv = .int .i64 v ∧ vb = .bool b ∧ vk = .int .i64 (k : Nat) ∧ Hid (WV (Lib.pieceU l i e) k v b ∧ wq = wr)) (fun _ _ vk _ => 5 - (intOf vk).toNat)
            case atStart => exact ⟨0, true, 0, by omega, rfl, rfl, rfl, ⟨Or.inl ⟨rfl, 0, rfl, rfl⟩, by decide, by decide⟩, rfl⟩
            case round =>
              obtain ⟨v, bb, k, hk5, rfl, rfl, rfl, HV⟩ := hrel
              have hVW := HV.out.2
              obtain rfl := hVW.symm
              clear hVW
              by_cases hk : k < 5
              case pos =>
                have HKK : Hid (k < 5) := hk
                have gk : (k : Int) < 5 := by omega
                obtain ⟨a, HA⟩ : ∃ a, Hid (i + k = a) := ⟨_, rfl⟩
                have HAN : Hid (a < n ∧ a < e) := by have := HA.out; have := HM5.out; have := HEN.out; exact ⟨by omega, by omega⟩
                have wa : IntKind.i64.wrap ((i : Int) + (k : Int)) = (a : Int) := by have := HA.out; have := HLN.out; have := HAN.out; rw [IntKind.wrap_i64]; omega
                have hix := fun u => HIX.out a u HAN.out.1
                obtain ⟨d, HD⟩ : ∃ c, Hid ((l.getD a 0).toNat = c) := ⟨_, rfl⟩
                have hd : d < 256 := by rw [← HD.out]; exact UInt8.toNat_lt _
                rw [HD.out] at hix
                obtain ⟨z, HZ⟩ : ∃ z, Hid (smallN d = z) := ⟨_, rfl⟩
                have HWG : Hid (((Lib.pieceU l i e).getD k 0).toNat = d) := by
                  show _ = _
                  rw [piece_at l i e k (by rw [HA.out]; exact HAN.out.2), HA.out]
                  exact HD.out
                have wn : IntKind.i64.wrap ((k : Int) + 1) = ((k + 1 : Nat) : Int) := by rw [IntKind.wrap_i64]; omega
                have HB4 : Hid (-160000 < v ∧ v < 160000) := by
                  obtain ⟨_, q2, q3⟩ := HV.out.1
                  have := pow_le4 k (by omega)
                  exact ⟨by omega, by omega⟩
                have hkk : k % 2 = 0 ∨ k % 2 = 1 := by omega
                clear hk hk5
                rcases hkk with hm | hm
                · have HML : Hid (letL k = conL ∧ (conL).length = 16) := ⟨by unfold letL; rw [if_neg (by omega)], rfl⟩
                  have r0 : (k : Int).tmod 2 = 0 := by rw [Int.tmod_eq_emod_of_nonneg (by omega)]; omega
                  obtain ⟨p, HP⟩ : ∃ p, Hid (plc conL z = p) := ⟨_, rfl⟩
                  have HNV : Hid (WV (Lib.pieceU l i e) (k + 1) (v * 16 + p) (bb && decide (0 ≤ p))) := HV.out.1.next HKK.out 16 (by rw [HML.out.1]; exact HML.out.2) p (by rw [HML.out.1, HWG.out, HZ.out]; exact HP.out)
                  have hpb := plc_lt conL z
                  rw [HP.out, HML.out.2] at hpb
                  have HPB : Hid (-1 ≤ p ∧ p < 16) := ⟨hpb.1, by omega⟩
                  have m1 : IntKind.i64.wrap (v * 16) = v * 16 := by have := HB4.out; rw [IntKind.wrap_i64]; omega
                  obtain ⟨vm, HVM⟩ : ∃ x, Hid (v * 16 = x) := ⟨_, rfl⟩
                  rw [HVM.out] at m1
                  have m2 : IntKind.i64.wrap (vm + p) = vm + p := by have := HVM.out; have := HB4.out; have := HPB.out; rw [IntKind.wrap_i64]; omega
                  obtain ⟨vp, HVP⟩ : ∃ x, Hid (vm + p = x) := ⟨_, rfl⟩
                  rw [HVP.out] at m2
                  rw [HVM.out, HVP.out] at HNV
                  have HWV : Hid (wrap64 (wrap64 (v * 16) + p) = vp) := wrap_two v p 16 vp HB4.out HPB.out (by decide) (by rw [HVM.out]; exact HVP.out)
                  obtain ⟨pb, HPP⟩ : ∃ b : Bool, Hid (decide (0 ≤ p) = b) := ⟨_, rfl⟩
                  clear m1 m2
                  clear hpb hm
                  by_cases hc0 : d < 65
                  case pos =>
                    have HZD : Hid (z = d) := by show z = d; rw [← HZ.out]; unfold smallN; exact if_neg (by omega)
                    have gc0 : ¬ (65 : Int) ≤ (d : Int) := by omega
                    rw [HZD.out] at HP
                    clear hc0 hd
                    cases bb with
                    | false =>
                      go_wp2_with (first | (go_at_call 18; refine (H18c.out d _).mono ?_; rintro e1 w1 ⟨rfl, hw⟩; obtain rfl := hw.symm; clear hw; rw [HP.out]))
                      have e0 := HKK.out
                      refine ⟨⟨vp, _, k + 1, by omega, by first | rfl | (rw [HWV.out]) | (simp; done), rfl, by first | rfl | (simp; done), (by first | exact HNV.out | (rw [HPP.out] at HNV; exact HNV.out)), by trivial⟩, ?_⟩
                      simp [intOf]
                      omega
                    | true =>
                      cases pb with
                      | false =>
                        have gp0 : ¬ (0 : Int) ≤ p := of_decide_eq_false HPP.out
                        go_wp2_with (first | (go_at_call 18; refine (H18c.out d _).mono ?_; rintro e1 w1 ⟨rfl, hw⟩; obtain rfl := hw.symm; clear hw; rw [HP.out]))
                        have e0 := HKK.out
                        refine ⟨⟨vp, _, k + 1, by omega, by first | rfl | (rw [HWV.out]) | (simp; done), rfl, by first | rfl | (simp; done), (by first | exact HNV.out | (rw [HPP.out] at HNV; exact HNV.out)), by trivial⟩, ?_⟩
                        simp [intOf]
                        omega
                      | true =>
                        have gp0 : (0 : Int) ≤ p := of_decide_eq_true HPP.out
                        go_wp2_with (first | (go_at_call 18; refine (H18c.out d _).mono ?_; rintro e1 w1 ⟨rfl, hw⟩; obtain rfl := hw.symm; clear hw; rw [HP.out]))
                        have e0 := HKK.out
                        refine ⟨⟨vp, _, k + 1, by omega, by first | rfl | (rw [HWV.out]) | (simp; done), rfl, by first | rfl | (simp; done), (by first | exact HNV.out | (rw [HPP.out] at HNV; exact HNV.out)), by trivial⟩, ?_⟩
                        simp [intOf]
                        omega
                  case neg =>
                  by_cases hc1 : 90 < d
                  case pos =>
                    have HZD : Hid (z = d) := by show z = d; rw [← HZ.out]; unfold smallN; exact if_neg (by omega)
                    have gc0 : (65 : Int) ≤ (d : Int) := by omega
                    have gc1 : ¬ (d : Int) ≤ 90 := by omega
                    rw [HZD.out] at HP
                    clear hc0 hc1 hd
                    cases bb with
                    | false =>
                      go_wp2_with (first | (go_at_call 18; refine (H18c.out d _).mono ?_; rintro e1 w1 ⟨rfl, hw⟩; obtain rfl := hw.symm; clear hw; rw [HP.out]))
                      have e0 := HKK.out
                      refine ⟨⟨vp, _, k + 1, by omega, by first | rfl | (rw [HWV.out]) | (simp; done), rfl, by first | rfl | (simp; done), (by first | exact HNV.out | (rw [HPP.out] at HNV; exact HNV.out)), by trivial⟩, ?_⟩
                      simp [intOf]
                      omega
                    | true =>
                      cases pb with
                      | false =>
                        have gp0 : ¬ (0 : Int) ≤ p := of_decide_eq_false HPP.out
                        go_wp2_with (first | (go_at_call 18; refine (H18c.out d _).mono ?_; rintro e1 w1 ⟨rfl, hw⟩; obtain rfl := hw.symm; clear hw; rw [HP.out]))
                        have e0 := HKK.out
                        refine ⟨⟨vp, _, k + 1, by omega, by first | rfl | (rw [HWV.out]) | (simp; done), rfl, by first | rfl | (simp; done), (by first | exact HNV.out | (rw [HPP.out] at HNV; exact HNV.out)), by trivial⟩, ?_⟩
                        simp [intOf]
                        omega
                      | true =>
                        have gp0 : (0 : Int) ≤ p := of_decide_eq_true HPP.out
                        go_wp2_with (first | (go_at_call 18; refine (H18c.out d _).mono ?_; rintro e1 w1 ⟨rfl, hw⟩; obtain rfl := hw.symm; clear hw; rw [HP.out]))
                        have e0 := HKK.out
                        refine ⟨⟨vp, _, k + 1, by omega, by first | rfl | (rw [HWV.out]) | (simp; done), rfl, by first | rfl | (simp; done), (by first | exact HNV.out | (rw [HPP.out] at HNV; exact HNV.out)), by trivial⟩, ?_⟩
                        simp [intOf]
                        omega
                  case neg =>
                  have HZD : Hid (z = d + 32) := by show z = _; rw [← HZ.out]; unfold smallN; exact if_pos (by omega)
                  have gc0 : (65 : Int) ≤ (d : Int) := by omega
                  have gc1 : (d : Int) ≤ 90 := by omega
                  have wz : IntKind.u8.wrap ((d : Int) + 32) = (z : Int) := by rw [show (d : Int) + 32 = (z : Int) by have := HZD.out; omega]; exact wraps_u8 _ (by omega) (by have := HZD.out; omega)
                  clear hc0 hc1 hd
                  cases bb with
                  | false =>
                    go_wp2_with (first | (go_at_call 18; refine (H18c.out z _).mono ?_; rintro e1 w1 ⟨rfl, hw⟩; obtain rfl := hw.symm; clear hw; rw [HP.out]))
                    have e0 := HKK.out
                    refine ⟨⟨vp, _, k + 1, by omega, by first | rfl | (rw [HWV.out]) | (simp; done), rfl, by first | rfl | (simp; done), (by first | exact HNV.out | (rw [HPP.out] at HNV; exact HNV.out)), by trivial⟩, ?_⟩
                    simp [intOf]
                    omega
                  | true =>
                    cases pb with
                    | false =>
                      have gp0 : ¬ (0 : Int) ≤ p := of_decide_eq_false HPP.out
                      go_wp2_with (first | (go_at_call 18; refine (H18c.out z _).mono ?_; rintro e1 w1 ⟨rfl, hw⟩; obtain rfl := hw.symm; clear hw; rw [HP.out]))
                      have e0 := HKK.out
                      refine ⟨⟨vp, _, k + 1, by omega, by first | rfl | (rw [HWV.out]) | (simp; done), rfl, by first | rfl | (simp; done), (by first | exact HNV.out | (rw [HPP.out] at HNV; exact HNV.out)), by trivial⟩, ?_⟩
                      simp [intOf]
                      omega
                    | true =>
                      have gp0 : (0 : Int) ≤ p := of_decide_eq_true HPP.out
                      go_wp2_with (first | (go_at_call 18; refine (H18c.out z _).mono ?_; rintro e1 w1 ⟨rfl, hw⟩; obtain rfl := hw.symm; clear hw; rw [HP.out]))
                      have e0 := HKK.out
                      refine ⟨⟨vp, _, k + 1, by omega, by first | rfl | (rw [HWV.out]) | (simp; done), rfl, by first | rfl | (simp; done), (by first | exact HNV.out | (rw [HPP.out] at HNV; exact HNV.out)), by trivial⟩, ?_⟩
                      simp [intOf]
                      omega
                · have HML : Hid (letL k = vowL ∧ (vowL).length = 4) := ⟨by unfold letL; rw [if_pos hm], rfl⟩
                  have r0 : (k : Int).tmod 2 = 1 := by rw [Int.tmod_eq_emod_of_nonneg (by omega)]; omega
                  obtain ⟨p, HP⟩ : ∃ p, Hid (plc vowL z = p) := ⟨_, rfl⟩
                  have HNV : Hid (WV (Lib.pieceU l i e) (k + 1) (v * 4 + p) (bb && decide (0 ≤ p))) := HV.out.1.next HKK.out 4 (by rw [HML.out.1]; exact HML.out.2) p (by rw [HML.out.1, HWG.out, HZ.out]; exact HP.out)
                  have hpb := plc_lt vowL z
                  rw [HP.out, HML.out.2] at hpb
                  have HPB : Hid (-1 ≤ p ∧ p < 16) := ⟨hpb.1, by omega⟩
                  have m1 : IntKind.i64.wrap (v * 4) = v * 4 := by have := HB4.out; rw [IntKind.wrap_i64]; omega
                  obtain ⟨vm, HVM⟩ : ∃ x, Hid (v * 4 = x) := ⟨_, rfl⟩
                  rw [HVM.out] at m1
                  have m2 : IntKind.i64.wrap (vm + p) = vm + p := by have := HVM.out; have := HB4.out; have := HPB.out; rw [IntKind.wrap_i64]; omega
                  obtain ⟨vp, HVP⟩ : ∃ x, Hid (vm + p = x) := ⟨_, rfl⟩
                  rw [HVP.out] at m2
                  rw [HVM.out, HVP.out] at HNV
                  have HWV : Hid (wrap64 (wrap64 (v * 4) + p) = vp) := wrap_two v p 4 vp HB4.out HPB.out (by decide) (by rw [HVM.out]; exact HVP.out)
                  obtain ⟨pb, HPP⟩ : ∃ b : Bool, Hid (decide (0 ≤ p) = b) := ⟨_, rfl⟩
                  clear m1 m2
                  clear hpb hm
                  by_cases hc0 : d < 65
                  case pos =>
                    have HZD : Hid (z = d) := by show z = d; rw [← HZ.out]; unfold smallN; exact if_neg (by omega)
                    have gc0 : ¬ (65 : Int) ≤ (d : Int) := by omega
                    rw [HZD.out] at HP
                    clear hc0 hd
                    cases bb with
                    | false =>
                      go_wp2_with (first | (go_at_call 18; refine (H18v.out d _).mono ?_; rintro e1 w1 ⟨rfl, hw⟩; obtain rfl := hw.symm; clear hw; rw [HP.out]))
                      have e0 := HKK.out
                      refine ⟨⟨vp, _, k + 1, by omega, by first | rfl | (rw [HWV.out]) | (simp; done), rfl, by first | rfl | (simp; done), (by first | exact HNV.out | (rw [HPP.out] at HNV; exact HNV.out)), by trivial⟩, ?_⟩
                      simp [intOf]
                      omega
                    | true =>
                      cases pb with
                      | false =>
                        have gp0 : ¬ (0 : Int) ≤ p := of_decide_eq_false HPP.out
                        go_wp2_with (first | (go_at_call 18; refine (H18v.out d _).mono ?_; rintro e1 w1 ⟨rfl, hw⟩; obtain rfl := hw.symm; clear hw; rw [HP.out]))
                        have e0 := HKK.out
                        refine ⟨⟨vp, _, k + 1, by omega, by first | rfl | (rw [HWV.out]) | (simp; done), rfl, by first | rfl | (simp; done), (by first | exact HNV.out | (rw [HPP.out] at HNV; exact HNV.out)), by trivial⟩, ?_⟩
                        simp [intOf]
                        omega
                      | true =>
                        have gp0 : (0 : Int) ≤ p := of_decide_eq_true HPP.out
                        go_wp2_with (first | (go_at_call 18; refine (H18v.out d _).mono ?_; rintro e1 w1 ⟨rfl, hw⟩; obtain rfl := hw.symm; clear hw; rw [HP.out]))
                        have e0 := HKK.out
                        refine ⟨⟨vp, _, k + 1, by omega, by first | rfl | (rw [HWV.out]) | (simp; done), rfl, by first | rfl | (simp; done), (by first | exact HNV.out | (rw [HPP.out] at HNV; exact HNV.out)), by trivial⟩, ?_⟩
                        simp [intOf]
                        omega
                  case neg =>
                  by_cases hc1 : 90 < d
                  case pos =>
                    have HZD : Hid (z = d) := by show z = d; rw [← HZ.out]; unfold smallN; exact if_neg (by omega)
                    have gc0 : (65 : Int) ≤ (d : Int) := by omega
                    have gc1 : ¬ (d : Int) ≤ 90 := by omega
                    rw [HZD.out] at HP
                    clear hc0 hc1 hd
                    cases bb with
                    | false =>
                      go_wp2_with (first | (go_at_call 18; refine (H18v.out d _).mono ?_; rintro e1 w1 ⟨rfl, hw⟩; obtain rfl := hw.symm; clear hw; rw [HP.out]))
                      have e0 := HKK.out
                      refine ⟨⟨vp, _, k + 1, by omega, by first | rfl | (rw [HWV.out]) | (simp; done), rfl, by first | rfl | (simp; done), (by first | exact HNV.out | (rw [HPP.out] at HNV; exact HNV.out)), by trivial⟩, ?_⟩
                      simp [intOf]
                      omega
                    | true =>
                      cases pb with
                      | false =>
                        have gp0 : ¬ (0 : Int) ≤ p := of_decide_eq_false HPP.out
                        go_wp2_with (first | (go_at_call 18; refine (H18v.out d _).mono ?_; rintro e1 w1 ⟨rfl, hw⟩; obtain rfl := hw.symm; clear hw; rw [HP.out]))
                        have e0 := HKK.out
                        refine ⟨⟨vp, _, k + 1, by omega, by first | rfl | (rw [HWV.out]) | (simp; done), rfl, by first | rfl | (simp; done), (by first | exact HNV.out | (rw [HPP.out] at HNV; exact HNV.out)), by trivial⟩, ?_⟩
                        simp [intOf]
                        omega
                      | true =>
                        have gp0 : (0 : Int) ≤ p := of_decide_eq_true HPP.out
                        go_wp2_with (first | (go_at_call 18; refine (H18v.out d _).mono ?_; rintro e1 w1 ⟨rfl, hw⟩; obtain rfl := hw.symm; clear hw; rw [HP.out]))
                        have e0 := HKK.out
                        refine ⟨⟨vp, _, k + 1, by omega, by first | rfl | (rw [HWV.out]) | (simp; done), rfl, by first | rfl | (simp; done), (by first | exact HNV.out | (rw [HPP.out] at HNV; exact HNV.out)), by trivial⟩, ?_⟩
                        simp [intOf]
                        omega
                  case neg =>
                  have HZD : Hid (z = d + 32) := by show z = _; rw [← HZ.out]; unfold smallN; exact if_pos (by omega)
                  have gc0 : (65 : Int) ≤ (d : Int) := by omega
                  have gc1 : (d : Int) ≤ 90 := by omega
                  have wz : IntKind.u8.wrap ((d : Int) + 32) = (z : Int) := by rw [show (d : Int) + 32 = (z : Int) by have := HZD.out; omega]; exact wraps_u8 _ (by omega) (by have := HZD.out; omega)
                  clear hc0 hc1 hd
                  cases bb with
                  | false =>
                    go_wp2_with (first | (go_at_call 18; refine (H18v.out z _).mono ?_; rintro e1 w1 ⟨rfl, hw⟩; obtain rfl := hw.symm; clear hw; rw [HP.out]))
                    have e0 := HKK.out
                    refine ⟨⟨vp, _, k + 1, by omega, by first | rfl | (rw [HWV.out]) | (simp; done), rfl, by first | rfl | (simp; done), (by first | exact HNV.out | (rw [HPP.out] at HNV; exact HNV.out)), by trivial⟩, ?_⟩
                    simp [intOf]
                    omega
                  | true =>
                    cases pb with
                    | false =>
                      have gp0 : ¬ (0 : Int) ≤ p := of_decide_eq_false HPP.out
                      go_wp2_with (first | (go_at_call 18; refine (H18v.out z _).mono ?_; rintro e1 w1 ⟨rfl, hw⟩; obtain rfl := hw.symm; clear hw; rw [HP.out]))
                      have e0 := HKK.out
                      refine ⟨⟨vp, _, k + 1, by omega, by first | rfl | (rw [HWV.out]) | (simp; done), rfl, by first | rfl | (simp; done), (by first | exact HNV.out | (rw [HPP.out] at HNV; exact HNV.out)), by trivial⟩, ?_⟩
                      simp [intOf]
                      omega
                    | true =>
                      have gp0 : (0 : Int) ≤ p := of_decide_eq_true HPP.out
                      go_wp2_with (first | (go_at_call 18; refine (H18v.out z _).mono ?_; rintro e1 w1 ⟨rfl, hw⟩; obtain rfl := hw.symm; clear hw; rw [HP.out]))
                      have e0 := HKK.out
                      refine ⟨⟨vp, _, k + 1, by omega, by first | rfl | (rw [HWV.out]) | (simp; done), rfl, by first | rfl | (simp; done), (by first | exact HNV.out | (rw [HPP.out] at HNV; exact HNV.out)), by trivial⟩, ?_⟩
                      simp [intOf]
                      omega
              case neg =>
                obtain rfl : k = 5 := by omega
                obtain ⟨y, HY⟩ : ∃ y, Hid (wordN (Lib.pieceU l i e) = y) := ⟨_, rfl⟩
                have HYL : Hid (y < 65536) := by show y < 65536; rw [← HY.out]; exact wordN_lt _
                obtain ⟨dn, qq1, qq2, qq3, qq4, qq5⟩ := HI.out
                obtain ⟨nn, HNL⟩ : ∃ n, Hid ((saidW dn).length = n) := ⟨_, rfl⟩
                have HNS : Hid (nn ≤ 2048) := by show nn ≤ 2048; rw [← HNL.out, saidW_length]; have := HK.out; have := HLN.out; omega
                have HO : Hid (wr.ownsRow B 5 1 ov nn (fc (saidW dn)) ∧ Below B w wr ∧ B ≤ wr.heap.size) := ⟨by rw [← HNL.out]; exact qq4, qq5, by rw [← HB.out]; exact Nat.le_trans (by rw [HB.out]; exact Nat.le_refl _) qq5.size⟩
                have HNX : Hid (∀ (v2 : Value) (u : World), u.ownsRow B 5 1 v2 (nn + 2) (fc (saidW dn) ++ fc (twoF y)) → Below B w u → ∃ dn : List (List UInt8), txL s = dn ++ wordsL [] (l.drop e) ∧ (∀ x, x ∈ dn → x.length = 5) ∧ dn.length ≤ e ∧ u.ownsRow B 5 1 v2 (saidW dn).length (fc (saidW dn)) ∧ Below B w u) := fun v2 u ho hb => by
                  have hsa : saidW (dn ++ [Lib.pieceU l i e]) = saidW dn ++ twoF y := by rw [saidW_append, ← HY.out]; show _ ++ (twoF _ ++ []) = _; rw [List.append_nil]
                  refine ⟨dn ++ [Lib.pieceU l i e], by rw [qq1, HPW.out]; simp, fun x hx => ?_, by have := HIE.out; simp; omega, ?_, hb⟩
                  · rw [List.mem_append] at hx
                    rcases hx with hx | hx
                    · exact qq2 x hx
                    · rw [List.mem_singleton] at hx; rw [hx, HPL.out, HM.out, HM5.out.1]
                  · rw [hsa, List.length_append, HNL.out, show fc (saidW dn ++ twoF y) = fc (saidW dn) ++ fc (twoF y) by simp [fc]]
                    exact ho
                have HBV : Hid (bb = true ∧ v = (y : Nat) ∨ bb = false ∧ y = 0) := by
                  obtain ⟨q1, _, _⟩ := HV.out.1
                  rcases q1 with ⟨q1, u, q2, q3⟩ | ⟨q1, q2⟩
                  · left
                    refine ⟨q1, ?_⟩
                    rw [q3, ← HY.out]
                    unfold wordN
                    rw [q2]
                    rfl
                  · right
                    refine ⟨q1, ?_⟩
                    rw [← HY.out]
                    unfold wordN
                    rw [q2]
                    rfl
                clear qq1 qq2 qq3 qq4 qq5 hk hk5
                rcases HBV.out with ⟨hb1, hv1⟩ | ⟨hb1, hy0⟩
                · subst hb1
                  subst hv1
                  obtain ⟨A0, HA0⟩ : ∃ x, Hid (y / 256 = x) := ⟨_, rfl⟩
                  obtain ⟨A1, HA1⟩ : ∃ x, Hid (y % 256 = x) := ⟨_, rfl⟩
                  have t1 : (y : Int).tdiv 256 = (A0 : Int) := by rw [Int.tdiv_eq_ediv_of_nonneg (by omega)]; have := HA0.out; omega
                  have t1b : IntKind.i64.wrap (A0 : Int) = (A0 : Int) := by have := HA0.out; have := HYL.out; rw [IntKind.wrap_i64]; omega
                  have t2 : (y : Int).tmod 256 = (A1 : Int) := by rw [Int.tmod_eq_emod_of_nonneg (by omega)]; have := HA1.out; omega
                  have t3 : IntKind.u8.wrap (A0 : Int) = (A0 : Int) := wraps_u8 _ (by omega) (by have := HA0.out; have := HYL.out; omega)
                  have t4 : IntKind.u8.wrap (A1 : Int) = (A1 : Int) := wraps_u8 _ (by omega) (by have := HA1.out; omega)
                  have HCE : Hid (fc (twoF y) = [Value.int .u8 (A0 : Nat), .int .u8 (A1 : Nat)]) := by show _ = _; rw [fc_two, HA1.out, show y / 256 % 256 = A0 by have := HA0.out; have := HYL.out; omega]
                  go_wp2_with (first
                    | (at_builtin; go_must (refine wpList_append_own _ rfl (.tmp 85) (.tmp 92) 25 rfl B 5 i0 (.int .u8 0) 1 1 Try.underlying25 hi hz0 hz1 hz2 rfl (by decide) _ nn _ rfl (HO.out.1.alloc _) ⟨wr.heap.size, 0, none⟩ 2 2 [Value.int .u8 (A0 : Nat), .int .u8 (A1 : Nat)] rfl rfl (two_cells wr _ _ 5) (by rw [← HCE.out]; exact fc_one _) (by have := HNS.out; unfold maxLen; omega) (by have := HNS.out; omega) (by have := HO.out.2.2; simp; omega) ?_; intro v2 w5 hown hgrow hnil; have HX : Hid (w5.ownsRow B 5 1 v2 (nn + 2) (fc (saidW dn) ++ fc (twoF y)) ∧ Below B w w5) := ⟨by rw [HCE.out]; exact hown, (HO.out.2.1.alloc HO.out.2.2 _).grown hgrow (by have := HO.out.2.2; simp; omega) (fun q hq => (HO.out.1.lt q hq).1)⟩; clear hown hgrow hnil)))
                  have e0 := HIE.out
                  have e1 := HEN.out
                  refine ⟨⟨v2, e, by rfl, by omega, by first | rfl | (simp; done), HNX.out v2 w5 HX.out.1 HX.out.2⟩, ?_⟩
                  simp [intOf]
                  omega
                · subst hb1
                  subst hy0
                  have HCE : Hid (fc (twoF 0) = [Value.int .u8 0, .int .u8 0]) := rfl
                  go_wp2_with (first
                    | (at_builtin; go_must (refine wpList_append_own _ rfl (.tmp 85) (.tmp 92) 25 rfl B 5 i0 (.int .u8 0) 1 1 Try.underlying25 hi hz0 hz1 hz2 rfl (by decide) _ nn _ rfl (HO.out.1.alloc _) ⟨wr.heap.size, 0, none⟩ 2 2 [Value.int .u8 0, .int .u8 0] rfl rfl (two_cells wr _ _ 5) (by rw [← HCE.out]; exact fc_one _) (by have := HNS.out; unfold maxLen; omega) (by have := HNS.out; omega) (by have := HO.out.2.2; simp; omega) ?_; intro v2 w5 hown hgrow hnil; have HX : Hid (w5.ownsRow B 5 1 v2 (nn + 2) (fc (saidW dn) ++ fc (twoF 0)) ∧ Below B w w5) := ⟨by rw [HCE.out]; exact hown, (HO.out.2.1.alloc HO.out.2.2 _).grown hgrow (by have := HO.out.2.2; simp; omega) (fun q hq => (HO.out.1.lt q hq).1)⟩; clear hown hgrow hnil)))
                  have e0 := HIE.out
                  have e1 := HEN.out
                  refine ⟨⟨v2, e, by rfl, by omega, by first | rfl | (simp; done), HNX.out v2 w5 HX.out.1 HX.out.2⟩, ?_⟩
                  simp [intOf]
                  omega
end Go.Proofs.Ytffejkfkkciaaaa
