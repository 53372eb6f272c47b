import Derived.Test.YtaejoohbmdckhaaWn2
import Derived.Deep.RegionHeld3
namespace Go.Proofs.Ytaejoohbmdckhaa
open Go.RowKit
set_option linter.unusedVariables false
set_option linter.unusedSimpArgs false
set_option maxHeartbeats 4000000 in
set_option maxRecDepth 100000 in
theorem t7 (C D : Code) (hC : (Try.f3.body).bind (restFrom 7) = some (C, D)) (p1 p2 : Option Addr) (n1 n2 c1 c2 g2 k2 b3 b4 b5 : Nat) (f1 f2 : Nat → Nat) (HS : Hid (n1 + n2 ≤ 131072)) (hn1 : n1 ≤ 131072) (hn2 : n2 ≤ 131072) (hf1 : Hid (∀ i, f1 i < 256)) (hf2 : Hid (∀ i, f2 i < 256)) (w Y5 : World) (HBB : Hid (Below w.heap.size w Y5)) (HY1 : Hid (By Y5 p1 n1 f1)) (HY2 : Hid (By Y5 p2 n2 f2)) (EX : Hid (Hb Y5 b3 (teC f1 n1))) (EY : Hid (Hb Y5 b4 (teC f2 n2))) (EZ : Hid (Hb Y5 b5 (teC (cat f1 f2 n1) (n1 + n2)))) (u16 u17 u18 u19 u20 u21 u22 u23 u24 u25 u26 u27 u28 u29 u30 u31 u32 u33 u34 u35 u36 u37 u38 u39 u40 u41 u42 u43 u44 u45 u46 u47 u48 u49 u50 u51 u52 u53 u54 u55 u56 u57 u58 u59 u60 u61 u62 u63 u64 u65 u66 u67 u68 u69 u70 u71 u72 u73 u74 u75 u76 u77 u78 u79 u80 u81 u82 u83 u84 u85 u86 u87 u88 u89 u90 u91 u92 u93 u94 u95 u96 u97 u98 u99 u100 u101 u102 u103 u104 u105 u106 u107 u108 u109 u110 u111 u112 u113 u114 u115 u116 u117 u118 u119 u120 u121 u122 u123 u124 u125 u126 u127 u128 u129 u130 u131 u132 u133 u134 u135 u136 u137 u138 u139 u140 u141 u142 u143 u144 u145 u146 u147 u148 u149 u150 u151 u152 u153 u154 u155 u156 u157 u158 u159 u160 u161 u162 u163 u164 u165 u166 u167 u168 u169 u170 u171 u172 u173 u174 u175 u176 u177 u178 u179 u180 u181 u182 u183 u184 u185 u186 u187 u188 u189 u190 u191 u192 u193 u194 u195 u196 u197 u198 u199 u200 u201 u202 u203 u204 u205 u206 u207 u208 u209 u210 u211 u212 u213 u214 u215 u216 u217 u218 u219 u220 u221 u222 u223 u224 u225 u226 u227 u228 u229 u230 u231 u232 u233 u234 u235 u236 u237 u238 u239 u240 u241 u242 u243 u244 u245 u246 u247 u248 u249 u250 u251 u252 u253 u254 u255 u256 u257 u258 u259 : Value) (K : Act → World → Prop) (hK : ∀ a u, D.wp Try.prog (bodyPost Try.prog Try.f3 (Ans w)) a u → K a u) :
    C.wp Try.prog (Exit.then K (bodyPost Try.prog Try.f3 (Ans w))) ⟨#[.slice p1 n1 c1, .slice p2 n2 c2, undef, undef, .bool false, .slice (some ⟨g2, 0, none⟩) (n1 + n2) k2, .pointer (some ⟨b3, 0, none⟩), .int .i64 0, .pointer (some ⟨b4, 0, none⟩), .int .i64 0, .pointer (some ⟨b5, 0, none⟩), .int .i64 0, undef, undef, undef, undef, u16, u17, u18, u19, u20, u21, u22, u23, u24, u25, u26, u27, u28, u29, u30, u31, u32, u33, u34, u35, u36, u37, u38, u39, u40, u41, u42, u43, u44, u45, u46, u47, u48, u49, u50, u51, u52, u53, u54, u55, u56, u57, u58, u59, u60, u61, u62, u63, u64, u65, u66, u67, u68, u69, u70, u71, u72, u73, u74, u75, u76, u77, u78, u79, u80, u81, u82, u83, u84, u85, u86, u87, u88, u89, u90, u91, u92, u93, u94, u95, u96, u97, u98, u99, u100, u101, u102, u103, u104, u105, u106, u107, u108, u109, u110, u111, u112, u113, u114, u115, u116, u117, u118, u119, u120, u121, u122, u123, u124, u125, u126, u127, u128, u129, u130, u131, u132, u133, u134, u135, u136, u137, u138, u139, u140, u141, u142, u143, u144, u145, u146, u147, u148, u149, u150, u151, u152, u153, u154, u155, u156, u157, u158, u159, u160, u161, u162, u163, u164, u165, u166, u167, u168, u169, u170, u171, u172, u173, u174, u175, u176, u177, u178, u179, u180, u181, u182, u183, u184, u185, u186, u187, u188, u189, u190, u191, u192, u193, u194, u195, u196, u197, u198, u199, u200, u201, u202, u203, u204, u205, u206, u207, u208, u209, u210, u211, u212, u213, u214, u215, u216, u217, u218, u219, u220, u221, u222, u223, u224, u225, u226, u227, u228, u229, u230, u231, u232, u233, u234, u235, u236, u237, u238, u239, u240, u241, u242, u243, u244, u245, u246, u247, u248, u249, u250, u251, u252, u253, u254, u255, u256, u257, u258, u259], []⟩ Y5 := by
  have hP := Option.some.inj ((rfl : (Try.f3.body).bind (restFrom 7) = some _).symm.trans hC)
  obtain ⟨hP1, hP2⟩ := Prod.mk.inj hP
  subst hP1 hP2
  clear hC hP
  try dsimp only
  obtain ⟨F3, hF3⟩ : ∃ F, Hid (F = cat f1 f2 n1) := ⟨_, rfl⟩
  obtain ⟨N3, hN3⟩ : ∃ F, Hid (F = n1 + n2) := ⟨_, rfl⟩
  have hf3 : Hid (∀ i, F3 i < 256) := fun i => by rw [hF3.out]; unfold cat; split; exact hf1.out _; exact hf2.out _
  have PO : Hid (onesF F3 N3 = onesF f1 n1 + onesF f2 n2) := by show _ = _; rw [hF3.out, hN3.out]; exact ones_cat f1 f2 n1 n2
  have PT : Hid (tuF F3 N3 = tuF f1 n1 + tuF f2 n2 + mt2 f1 f2 n1 n2) := by show _ = _; rw [hF3.out, hN3.out]; exact tu_cat f1 f2 n1 hf2.out n2
  have PR : Hid (lgF f1 n1 ≤ lgF F3 N3 ∧ lgF f2 n2 ≤ lgF F3 N3 ∧ lgF F3 N3 ≤ lgF f1 n1 + lgF f2 n2) := by rw [hF3.out, hN3.out]; exact ⟨lg_first f1 f2 n1 n2, (lg_cat f1 f2 n1 n2).1, (lg_cat f1 f2 n1 n2).2⟩
  have PM : Hid (moF f1 n1 ≤ moF F3 N3 ∧ moF f2 n2 ≤ moF F3 N3) := by rw [hF3.out, hN3.out]; exact ⟨mo_first f1 f2 n1 n2, mo_second f1 f2 n1 n2⟩
  have PF : Hid (frF f1 n1 ≤ frF F3 N3) := by rw [hF3.out, hN3.out]; exact fr_first f1 f2 n1 n2
  have PE : Hid (∀ k, eR F3 k N3 = eR f1 k n1 + eR f2 k n2 ∧ eI F3 k N3 = eI f1 k n1 + eI f2 k n2) := fun k => by rw [hF3.out, hN3.out]; exact ⟨eR_cat f1 f2 k n1 n2, eI_cat f1 f2 k n1 n2⟩
  have hN3s : N3 ≤ 131072 := by rw [hN3.out]; exact HS.out
  rw [← hF3.out, ← hN3.out] at EZ
  have x0 := EX.out.c 0 (.int .i64 (n1 : Nat)) rfl
  have x1 := EX.out.c 1 (.int .i64 (lgF f1 n1 : Nat)) rfl
  have x2 := EX.out.c 2 (.int .i64 (moF f1 n1 : Nat)) rfl
  have x3 := EX.out.c 3 (.int .i64 (onesF f1 n1 : Nat)) rfl
  have x12 := EX.out.c 12 (.int .i64 (frF f1 n1)) rfl
  have x13 := EX.out.c 13 (.int .i64 (sqS (fun x => pk f1 x n1) 16 : Nat)) rfl
  have x14 := EX.out.c 14 (.int .i64 (tuF f1 n1 : Nat)) rfl
  have lxR := lgF_le f1 n1
  have lxM := moF_le f1 n1
  have lxO := onesF_le f1 n1
  have lxT := tuF_le f1 n1
  have lFx := fr_le f1 n1
  have y0 := EY.out.c 0 (.int .i64 (n2 : Nat)) rfl
  have y1 := EY.out.c 1 (.int .i64 (lgF f2 n2 : Nat)) rfl
  have y2 := EY.out.c 2 (.int .i64 (moF f2 n2 : Nat)) rfl
  have y3 := EY.out.c 3 (.int .i64 (onesF f2 n2 : Nat)) rfl
  have y12 := EY.out.c 12 (.int .i64 (frF f2 n2)) rfl
  have y13 := EY.out.c 13 (.int .i64 (sqS (fun x => pk f2 x n2) 16 : Nat)) rfl
  have y14 := EY.out.c 14 (.int .i64 (tuF f2 n2 : Nat)) rfl
  have lyR := lgF_le f2 n2
  have lyM := moF_le f2 n2
  have lyO := onesF_le f2 n2
  have lyT := tuF_le f2 n2
  have lFy := fr_le f2 n2
  have z0 := EZ.out.c 0 (.int .i64 (N3 : Nat)) rfl
  have z1 := EZ.out.c 1 (.int .i64 (lgF F3 N3 : Nat)) rfl
  have z2 := EZ.out.c 2 (.int .i64 (moF F3 N3 : Nat)) rfl
  have z3 := EZ.out.c 3 (.int .i64 (onesF F3 N3 : Nat)) rfl
  have z12 := EZ.out.c 12 (.int .i64 (frF F3 N3)) rfl
  have z13 := EZ.out.c 13 (.int .i64 (sqS (fun x => pk F3 x N3) 16 : Nat)) rfl
  have z14 := EZ.out.c 14 (.int .i64 (tuF F3 N3 : Nat)) rfl
  have lzR := lgF_le F3 N3
  have lzM := moF_le F3 N3
  have lzO := onesF_le F3 N3
  have lzT := tuF_le F3 N3
  have lFz := fr_le F3 N3
  clear x13 y13 y12
  obtain ⟨xR, hxR⟩ : ∃ F : Int, Hid (F = ((lgF f1 n1 : Nat) : Int)) := ⟨_, rfl⟩
  have LxR : 0 ≤ xR ∧ xR ≤ 1048576 := by rw [hxR.out]; omega
  rw [← hxR.out] at x1
  clear lxR
  obtain ⟨xM, hxM⟩ : ∃ F : Int, Hid (F = ((moF f1 n1 : Nat) : Int)) := ⟨_, rfl⟩
  have LxM : 0 ≤ xM ∧ xM ≤ 1048576 := by rw [hxM.out]; omega
  rw [← hxM.out] at x2
  clear lxM
  obtain ⟨xO, hxO⟩ : ∃ F : Int, Hid (F = ((onesF f1 n1 : Nat) : Int)) := ⟨_, rfl⟩
  have LxO : 0 ≤ xO ∧ xO ≤ 1048576 := by rw [hxO.out]; omega
  rw [← hxO.out] at x3
  clear lxO
  obtain ⟨xT, hxT⟩ : ∃ F : Int, Hid (F = ((tuF f1 n1 : Nat) : Int)) := ⟨_, rfl⟩
  have LxT : 0 ≤ xT ∧ xT ≤ 1048576 := by rw [hxT.out]; omega
  rw [← hxT.out] at x14
  clear lxT
  obtain ⟨xF, hxF⟩ : ∃ F, Hid (F = frF f1 n1) := ⟨_, rfl⟩
  rw [← hxF.out] at x12 lFx PF
  obtain ⟨yR, hyR⟩ : ∃ F : Int, Hid (F = ((lgF f2 n2 : Nat) : Int)) := ⟨_, rfl⟩
  have LyR : 0 ≤ yR ∧ yR ≤ 1048576 := by rw [hyR.out]; omega
  rw [← hyR.out] at y1
  clear lyR
  obtain ⟨yM, hyM⟩ : ∃ F : Int, Hid (F = ((moF f2 n2 : Nat) : Int)) := ⟨_, rfl⟩
  have LyM : 0 ≤ yM ∧ yM ≤ 1048576 := by rw [hyM.out]; omega
  rw [← hyM.out] at y2
  clear lyM
  obtain ⟨yO, hyO⟩ : ∃ F : Int, Hid (F = ((onesF f2 n2 : Nat) : Int)) := ⟨_, rfl⟩
  have LyO : 0 ≤ yO ∧ yO ≤ 1048576 := by rw [hyO.out]; omega
  rw [← hyO.out] at y3
  clear lyO
  obtain ⟨yT, hyT⟩ : ∃ F : Int, Hid (F = ((tuF f2 n2 : Nat) : Int)) := ⟨_, rfl⟩
  have LyT : 0 ≤ yT ∧ yT ≤ 1048576 := by rw [hyT.out]; omega
  rw [← hyT.out] at y14
  clear lyT
  obtain ⟨yF, hyF⟩ : ∃ F, Hid (F = frF f2 n2) := ⟨_, rfl⟩
  rw [← hyF.out] at lFy
  obtain ⟨zR, hzR⟩ : ∃ F : Int, Hid (F = ((lgF F3 N3 : Nat) : Int)) := ⟨_, rfl⟩
  have LzR : 0 ≤ zR ∧ zR ≤ 1048576 := by rw [hzR.out]; omega
  rw [← hzR.out] at z1
  clear lzR
  obtain ⟨zM, hzM⟩ : ∃ F : Int, Hid (F = ((moF F3 N3 : Nat) : Int)) := ⟨_, rfl⟩
  have LzM : 0 ≤ zM ∧ zM ≤ 1048576 := by rw [hzM.out]; omega
  rw [← hzM.out] at z2
  clear lzM
  obtain ⟨zO, hzO⟩ : ∃ F : Int, Hid (F = ((onesF F3 N3 : Nat) : Int)) := ⟨_, rfl⟩
  have LzO : 0 ≤ zO ∧ zO ≤ 1048576 := by rw [hzO.out]; omega
  rw [← hzO.out] at z3
  clear lzO
  obtain ⟨zT, hzT⟩ : ∃ F : Int, Hid (F = ((tuF F3 N3 : Nat) : Int)) := ⟨_, rfl⟩
  have LzT : 0 ≤ zT ∧ zT ≤ 1048576 := by rw [hzT.out]; omega
  rw [← hzT.out] at z14
  clear lzT
  obtain ⟨zF, hzF⟩ : ∃ F, Hid (F = frF F3 N3) := ⟨_, rfl⟩
  rw [← hzF.out] at z12 lFz PF
  have hNN : (n1 : Int) + (n2 : Int) = (N3 : Int) := by rw [hN3.out]; omega
  have hOO : xO + yO = zO := by have := PO.out; rw [hxO.out, hyO.out, hzO.out]; omega
  have PRi : xR ≤ zR ∧ yR ≤ zR ∧ zR ≤ xR + yR := by have := PR.out; rw [hxR.out, hyR.out, hzR.out]; omega
  have PMi : xM ≤ zM ∧ yM ≤ zM := by have := PM.out; rw [hxM.out, hyM.out, hzM.out]; omega
  have PTi : Hid (zT = xT + yT + ((mt2 f1 f2 n1 n2 : Nat) : Int)) := by show _ = _; have := PT.out; rw [hxT.out, hyT.out, hzT.out]; omega
  have dR1 : decide (zR < if xR < yR then yR else xR) = false := by simp only [decide_eq_false_iff_not]; split <;> omega
  have dR2 : decide (xR + yR < zR) = false := by simp only [decide_eq_false_iff_not]; omega
  have dM1 : decide (zM < if xM < yM then yM else xM) = false := by simp only [decide_eq_false_iff_not]; split <;> omega
  have dF1 : decide (zF < xF) = false := by have := PF.out; simp only [decide_eq_false_iff_not]; omega
  have HPR : Hid (xR ≤ zR ∧ yR ≤ zR ∧ zR ≤ xR + yR) := PRi
  clear PRi PMi
  clear PR PM PF PO
  have H7 : Hid (∀ u, Calls Try.prog 7 #[.int .i64 0] u fun e w' => e = .returned (.int .i64 0) ∧ w' = u) := fun u => num_ok 0 u
  go_upto_if 81 with (go_at_call 7; refine (H7.out _).mono ?_; rintro e9 w9 ⟨rfl, hw9⟩; obtain rfl := hw9.symm)
  go_upto_region 10 with fail
  obtain ⟨TB, hTB⟩ : ∃ b : Bool, Hid (b = decide (0 < n1 ∧ 0 < n2 ∧ f1 (n1 - 1) % 2 ≠ f2 0 / 128)) := ⟨_, rfl⟩
  go_cut [108] from 16 (fun c wx => c = .bool TB ∧ ∃ d, wx = Y5.drewN d)
  case first =>
    clear x0 x1 x2 x3 x12 x14 y0 y1 y2 y3 y14 z0 z1 z2 z3 z12 z13 z14 dR1 dR2 dM1 dF1 hOO hNN EX EY EZ LxR LxM LxO LxT LyR LyM LyO LyT LzR LzM LzO LzT lFx lFy lFz
    by_cases a1 : 0 < n1
    · by_cases a2 : 0 < n2
      · obtain ⟨ba, oa, hpa, hba, ca⟩ := HY1.out a1
        obtain ⟨bb, ob, hpb, hbb, cb⟩ := HY2.out a2
        obtain ⟨j, hj⟩ : ∃ j, n1 = j + 1 := ⟨n1 - 1, by omega⟩
        obtain ⟨ca1, ca2⟩ := ca j (by omega)
        obtain ⟨cb1, cb2⟩ := cb 0 a2
        rw [Nat.add_zero] at cb1
        obtain ⟨u, hu⟩ : ∃ u, Hid (u = f1 j) := ⟨_, rfl⟩
        obtain ⟨v, hv⟩ : ∃ v, Hid (v = f2 0) := ⟨_, rfl⟩
        rw [← hu.out] at ca1 ca2
        rw [← hv.out] at cb1 cb2
        have g1 : decide ((0 : Int) < (n1 : Int)) = true := by simp; omega
        have g2 : decide ((0 : Int) < (n2 : Int)) = true := by simp; omega
        have e1 : (n1 : Int) - 1 = (j : Int) := by omega
        have k1 : (j : Int) < (n1 : Int) := by omega
        have k2 : (0 : Int) < (n2 : Int) := by omega
        subst hpa hpb
        clear ca cb
        by_cases huv : u % 2 = v / 128
        · have q : (((u : Int) % 2) != ((v : Int) / 128)) = false := by simp; omega
          have HTB2 : Hid (TB = false) := by show _ = _; rw [hTB.out]; simp only [decide_eq_false_iff_not]; rw [show n1 - 1 = j by omega, ← hu.out, ← hv.out]; omega
          clear huv hj
          go_quiet (fail)
          go_wp2
          go_meet
          case rel => exact ⟨by rw [HTB2.out], _, rfl⟩
        · have q : (((u : Int) % 2) != ((v : Int) / 128)) = true := by simp; omega
          have HTB2 : Hid (TB = true) := by show _ = _; rw [hTB.out]; simp only [decide_eq_true_eq]; rw [show n1 - 1 = j by omega, ← hu.out, ← hv.out]; omega
          clear huv hj
          go_quiet (fail)
          go_wp2
          go_meet
          case rel => exact ⟨by rw [HTB2.out], _, rfl⟩
      · obtain rfl : n2 = 0 := by omega
        have HTB2 : Hid (TB = false) := by show _ = _; rw [hTB.out]; simp
        have g1 : decide ((0 : Int) < (n1 : Int)) = true := by simp; omega
        go_quiet (fail)
        go_wp2
        go_meet
        case rel => exact ⟨by rw [HTB2.out], _, rfl⟩
    · obtain rfl : n1 = 0 := by omega
      have HTB2 : Hid (TB = false) := by show _ = _; rw [hTB.out]; simp
      go_quiet (fail)
      go_wp2
      go_meet
      case rel => exact ⟨by rw [HTB2.out], _, rfl⟩
  obtain ⟨rfl, d, rfl⟩ := hcut
  have HZT : Hid (zT = xT + yT + (if TB then 1 else 0)) := by show _ = _; rw [PTi.out, hTB.out]; unfold mt2; simp; split <;> rfl
  go_upto_if 108 with fail
  go_cut [12] from 16 (fun t wx => t = .int .i64 zT ∧ wx = Y5.drewN d)
  case first =>
    have hzt := HZT.out
    clear x0 x1 x2 x3 x12 x14 y0 y1 y2 y3 y14 z0 z1 z2 z3 z12 z13 z14 dR1 dR2 dM1 dF1 hOO hNN EX EY EZ
    cases TB
    · have hzt2 : xT + yT = zT := by simp at hzt; omega
      clear hzt
      go_wp2
      go_meet
      case rel => exact ⟨congrArg _ hzt2, rfl⟩
    · have hzt2 : xT + yT + 1 = zT := by simp at hzt; omega
      clear hzt
      go_wp2
      go_meet
      case rel => first | exact ⟨rfl, rfl⟩ | exact ⟨congrArg _ hzt2, rfl⟩
  obtain ⟨rfl, rfl⟩ := hcut
  have FX : Hid (Hb (Y5.drewN d) b3 (teC f1 n1)) := EX.out
  have FY : Hid (Hb (Y5.drewN d) b4 (teC f2 n2)) := EY.out
  have FZ : Hid (Hb (Y5.drewN d) b5 (teC F3 N3)) := EZ.out
  have HBC : Hid (Below w.heap.size w (Y5.drewN d)) := ⟨HBB.out.os, HBB.out.tape, HBB.out.output, HBB.out.size, HBB.out.block⟩
  clear x0 x1 x2 x3 x12 x14 y0 y1 y2 y3 y14 z0 z1 z2 z3 z12 z13 z14 EX EY EZ HBB HY1 HY2 HZT PT PTi hTB
  generalize Y5.drewN d = Y6 at FX FY FZ HBC ⊢
  apply_assumption
  refine wp_seq_k fun K2 hK2 => ?_
  exact t12 _ _ rfl p1 p2 n1 n2 c1 c2 g2 k2 b3 b4 b5 f1 f2 F3 N3 hN3s hf3 PE w _ HBC FX FY FZ xR yR zR xM yM zM zT xF zF hxR hyR hzR hxM hyM hzM hzT hxF hzF LxR LyR LzR dR1 dR2 dM1 dF1 _ _ _ _ _ _ _ _ _ _ _ _ _ _ _ _ _ _ _ _ _ _ _ _ _ _ _ _ _ _ _ _ _ _ _ _ _ _ _ _ _ _ _ _ _ _ _ _ _ _ _ _ _ _ _ _ _ _ _ _ _ _ _ _ _ _ _ _ _ _ _ _ _ _ _ _ _ _ _ _ _ _ _ _ _ _ _ _ _ _ _ _ _ _ _ _ _ _ _ _ _ _ _ _ _ _ _ _ _ _ _ _ _ _ _ _ _ _ _ _ _ _ _ _ _ _ _ _ _ _ _ _ _ _ _ _ _ _ _ _ _ _ _ _ _ _ _ _ _ _ _ _ _ _ _ _ _ _ _ _ _ _ _ _ _ _ _ _ _ _ _ _ _ _ _ _ _ _ _ _ _ _ _ _ _ _ _ _ _ _ _ _ _ _ _ _ _ _ _ _ _ _ _ _ _ _ _ _ _ _ _ _ _ _ _ _ _ _ _ _ _ _ _ _ _ _ _ _ _ _ _ _ _ _ _ _ _ _ _ _ _ _ _ _ K2 hK2
end Go.Proofs.Ytaejoohbmdckhaa
