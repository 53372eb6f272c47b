import Derived.Test.YtaejoohbmdckhaaWn3
import Derived.Deep.RegionHeld3
namespace Go.Proofs.Ytaejoohbmdckhaa
open Go.RowKit
set_option linter.unusedVariables false
set_option linter.unusedSimpArgs false
set_option maxHeartbeats 4000000 in
set_option maxRecDepth 100000 in
theorem t12 (C D : Code) (hC : (Try.f3.body).bind (restFrom 12) = some (C, D)) (p1 p2 : Option Addr) (n1 n2 c1 c2 g2 k2 b3 b4 b5 : Nat) (f1 f2 F3 : Nat → Nat) (N3 : Nat) (hN3s : N3 ≤ 131072) (hf3 : Hid (∀ i, F3 i < 256)) (PE : Hid (∀ k, eR F3 k N3 = eR f1 k n1 + eR f2 k n2 ∧ eI F3 k N3 = eI f1 k n1 + eI f2 k n2)) (w Y6 : World) (HBC : Hid (Below w.heap.size w Y6)) (FX : Hid (Hb Y6 b3 (teC f1 n1))) (FY : Hid (Hb Y6 b4 (teC f2 n2))) (FZ : Hid (Hb Y6 b5 (teC F3 N3))) (xR yR zR xM yM zM zT xF zF : Int) (hxR : Hid (xR = ((lgF f1 n1 : Nat) : Int))) (hyR : Hid (yR = ((lgF f2 n2 : Nat) : Int))) (hzR : Hid (zR = ((lgF F3 N3 : Nat) : Int))) (hxM : Hid (xM = ((moF f1 n1 : Nat) : Int))) (hyM : Hid (yM = ((moF f2 n2 : Nat) : Int))) (hzM : Hid (zM = ((moF F3 N3 : Nat) : Int))) (hzT : Hid (zT = ((tuF F3 N3 : Nat) : Int))) (hxF : Hid (xF = frF f1 n1)) (hzF : Hid (zF = frF F3 N3)) (LxR : 0 ≤ xR ∧ xR ≤ 1048576) (LyR : 0 ≤ yR ∧ yR ≤ 1048576) (LzR : 0 ≤ zR ∧ zR ≤ 1048576) (dR1 : decide (zR < if xR < yR then yR else xR) = false) (dR2 : decide (xR + yR < zR) = false) (dM1 : decide (zM < if xM < yM then yM else xM) = false) (dF1 : decide (zF < xF) = false) (u16 u17 u18 u19 u20 u21 u22 u23 u24 u25 u26 u27 u28 u29 u30 u31 u32 u33 u34 u35 u36 u37 u38 u39 u40 u41 u42 u43 u44 u45 u46 u47 u48 u49 u50 u51 u52 u53 u54 u55 u56 u57 u58 u59 u60 u61 u62 u63 u64 u65 u66 u67 u68 u69 u70 u71 u72 u73 u74 u75 u76 u77 u78 u79 u80 u81 u82 u83 u84 u85 u86 u87 u88 u89 u90 u91 u92 u93 u94 u95 u96 u97 u98 u99 u100 u101 u102 u103 u104 u105 u106 u107 u108 u109 u110 u111 u112 u113 u114 u115 u116 u117 u118 u119 u120 u121 u122 u123 u124 u125 u126 u127 u128 u129 u130 u131 u132 u133 u134 u135 u136 u137 u138 u139 u140 u141 u142 u143 u144 u145 u146 u147 u148 u149 u150 u151 u152 u153 u154 u155 u156 u157 u158 u159 u160 u161 u162 u163 u164 u165 u166 u167 u168 u169 u170 u171 u172 u173 u174 u175 u176 u177 u178 u179 u180 u181 u182 u183 u184 u185 u186 u187 u188 u189 u190 u191 u192 u193 u194 u195 u196 u197 u198 u199 u200 u201 u202 u203 u204 u205 u206 u207 u208 u209 u210 u211 u212 u213 u214 u215 u216 u217 u218 u219 u220 u221 u222 u223 u224 u225 u226 u227 u228 u229 u230 u231 u232 u233 u234 u235 u236 u237 u238 u239 u240 u241 u242 u243 u244 u245 u246 u247 u248 u249 u250 u251 u252 u253 u254 u255 u256 u257 u258 u259 : Value) (K : Act → World → Prop) (hK : ∀ a u, D.wp Try.prog (bodyPost Try.prog Try.f3 (Ans w)) a u → K a u) :
    C.wp Try.prog (Exit.then K (bodyPost Try.prog Try.f3 (Ans w))) ⟨#[.slice p1 n1 c1, .slice p2 n2 c2, undef, undef, .bool false, .slice (some ⟨g2, 0, none⟩) (n1 + n2) k2, .pointer (some ⟨b3, 0, none⟩), .int .i64 0, .pointer (some ⟨b4, 0, none⟩), .int .i64 0, .pointer (some ⟨b5, 0, none⟩), .int .i64 0, .int .i64 zT, undef, undef, undef, u16, u17, u18, u19, u20, u21, u22, u23, u24, u25, u26, u27, u28, u29, u30, u31, u32, u33, u34, u35, u36, u37, u38, u39, u40, u41, u42, u43, u44, u45, u46, u47, u48, u49, u50, u51, u52, u53, u54, u55, u56, u57, u58, u59, u60, u61, u62, u63, u64, u65, u66, u67, u68, u69, u70, u71, u72, u73, u74, u75, u76, u77, u78, u79, u80, u81, u82, u83, u84, u85, u86, u87, u88, u89, u90, u91, u92, u93, u94, u95, u96, u97, u98, u99, u100, u101, u102, u103, u104, u105, u106, u107, u108, u109, u110, u111, u112, u113, u114, u115, u116, u117, u118, u119, u120, u121, u122, u123, u124, u125, u126, u127, u128, u129, u130, u131, u132, u133, u134, u135, u136, u137, u138, u139, u140, u141, u142, u143, u144, u145, u146, u147, u148, u149, u150, u151, u152, u153, u154, u155, u156, u157, u158, u159, u160, u161, u162, u163, u164, u165, u166, u167, u168, u169, u170, u171, u172, u173, u174, u175, u176, u177, u178, u179, u180, u181, u182, u183, u184, u185, u186, u187, u188, u189, u190, u191, u192, u193, u194, u195, u196, u197, u198, u199, u200, u201, u202, u203, u204, u205, u206, u207, u208, u209, u210, u211, u212, u213, u214, u215, u216, u217, u218, u219, u220, u221, u222, u223, u224, u225, u226, u227, u228, u229, u230, u231, u232, u233, u234, u235, u236, u237, u238, u239, u240, u241, u242, u243, u244, u245, u246, u247, u248, u249, u250, u251, u252, u253, u254, u255, u256, u257, u258, u259], []⟩ Y6 := by
  have hP := Option.some.inj ((rfl : (Try.f3.body).bind (restFrom 12) = some _).symm.trans hC)
  obtain ⟨hP1, hP2⟩ := Prod.mk.inj hP
  subst hP1 hP2
  clear hC hP
  try dsimp only
  have x1 := FX.out.c 1 (.int .i64 (lgF f1 n1 : Nat)) rfl
  have x2 := FX.out.c 2 (.int .i64 (moF f1 n1 : Nat)) rfl
  rw [← hxR.out] at x1
  rw [← hxM.out] at x2
  have x12 := FX.out.c 12 (.int .i64 (frF f1 n1)) rfl
  rw [← hxF.out] at x12
  have y1 := FY.out.c 1 (.int .i64 (lgF f2 n2 : Nat)) rfl
  have y2 := FY.out.c 2 (.int .i64 (moF f2 n2 : Nat)) rfl
  rw [← hyR.out] at y1
  rw [← hyM.out] at y2
  have z1 := FZ.out.c 1 (.int .i64 (lgF F3 N3 : Nat)) rfl
  have z2 := FZ.out.c 2 (.int .i64 (moF F3 N3 : Nat)) rfl
  rw [← hzR.out] at z1
  rw [← hzM.out] at z2
  have z12 := FZ.out.c 12 (.int .i64 (frF F3 N3)) rfl
  rw [← hzF.out] at z12
  have z0 := FZ.out.c 0 (.int .i64 (N3 : Nat)) rfl
  have z14 := FZ.out.c 14 (.int .i64 (tuF F3 N3 : Nat)) rfl
  rw [← hzT.out] at z14
  go_upto_region 12 with fail
  go_cut [151] from 16 (fun c wx => c = .bool false ∧ wx = Y6)
  case first =>
    go_wp2
    all_goals (go_meet; exact ⟨rfl, rfl⟩)
  obtain ⟨rfl, rfl⟩ := hcut
  go_upto_region 14 with fail
  exact t14 _ _ rfl p1 p2 n1 n2 c1 c2 g2 k2 b3 b4 b5 f1 f2 F3 N3 hN3s hf3 PE w _ HBC FX FY FZ zT _ _ _ _ _ _ _ _ _ _ _ _ _ _ _ _ _ _ _ _ _ _ _ _ _ _ _ _ _ _ _ _ _ _ _ _ _ _ _ _ _ _ _ _ _ _ _ _ _ _ _ _ _ _ _ _ _ _ _ _ _ _ _ _ _ _ _ _ _ _ _ _ _ _ _ _ _ _ _ _ _ _ _ _ _ _ _ _ _ _ _ _ _ _ _ _ _ _ _ _ _ _ _ _ _ _ _ _ _ _ _ _ _ _ _ _ _ _ _ _ _ _ _ _ _ _ _ _ _ _ _ _ _ _ _ _ _ _ _ _ _ _ _ _ _ _ _ _ _ _ _ _ _ _ _ _ _ _ _ _ _ _ _ _ _ _ _ _ _ _ _ _ _ _ _ _ _ _ _ _ _ _ _ _ _ _ _ _ _ _ _ _ _ _ _ _ _ _ _ _ _ _ _ _ _ _ _ _ _ _ _ _ _ _ _ _ _ _ _ _ _ _ _ _ _ _ _ _ _ _ _ _ _ _ _ _ _ _ _ _ _ _ _ _ _ (by assumption)
end Go.Proofs.Ytaejoohbmdckhaa
