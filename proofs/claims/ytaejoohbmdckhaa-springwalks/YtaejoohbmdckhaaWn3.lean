import Derived.Test.YtaejoohbmdckhaaWk
import Derived.Deep.RegionHeld3
namespace Go.Proofs.Ytaejoohbmdckhaa
open Go.RowKit
set_option linter.unusedVariables false
set_option linter.unusedSimpArgs false
/-- Does a piece of code begin with region n? -/
def begins (n : Nat) : Code → Bool
  | .region id _ _ => id == n
  | .seq a _ => begins n a
  | _ => false
/-- What is left of a function from region n on. -/
def restFrom (n : Nat) : Code → Option (Code × Code)
  | .seq a b => if begins n a then some (a, b) else restFrom n b
  | _ => none
theorem teC_re (f : Nat → Nat) (n k : Nat) (hk : k < 4) : (teC f n)[4 + k * 2]? = some (.int .i64 (eR f k n)) ∧ (teC f n)[4 + k * 2 + 1]? = some (.int .i64 (eI f k n)) := by
  rcases (show k = 0 ∨ k = 1 ∨ k = 2 ∨ k = 3 by omega) with rfl | rfl | rfl | rfl <;> simp [teC, heC, enF, eC]
/-- What the law answers. -/
abbrev Ans (w : World) : Ending → World → Prop := fun e w' => e = .returned (.bool true) ∧ Below w.heap.size w w'
set_option maxHeartbeats 4000000 in
set_option maxRecDepth 100000 in
theorem t14 (C D : Code) (hC : (Try.f3.body).bind (restFrom 14) = some (C, D)) (p1 p2 : Option Addr) (n1 n2 c1 c2 g2 k2 b3 b4 b5 : Nat) (f1 f2 F3 : Nat → Nat) (N3 : Nat) (hN3s : N3 ≤ 131072) (hf3 : Hid (∀ i, F3 i < 256)) (PE : Hid (∀ k, eR F3 k N3 = eR f1 k n1 + eR f2 k n2 ∧ eI F3 k N3 = eI f1 k n1 + eI f2 k n2)) (w wc : World) (HBC : Hid (Below w.heap.size w wc)) (FX : Hid (Hb wc b3 (teC f1 n1))) (FY : Hid (Hb wc b4 (teC f2 n2))) (FZ : Hid (Hb wc b5 (teC F3 N3))) (zT : Int) (u16 u17 u18 u19 u20 u21 u22 u23 u24 u25 u26 u27 u28 u29 u30 u31 u32 u33 u34 u35 u36 u37 u38 u39 u40 u41 u42 u43 u44 u45 u46 u47 u48 u49 u50 u51 u52 u53 u54 u55 u56 u57 u58 u59 u60 u61 u62 u63 u64 u65 u66 u67 u68 u69 u70 u71 u72 u73 u74 u75 u76 u77 u78 u79 u80 u81 u82 u83 u84 u85 u86 u87 u88 u89 u90 u91 u92 u93 u94 u95 u96 u97 u98 u99 u100 u101 u102 u103 u104 u105 u106 u107 u108 u109 u110 u111 u112 u113 u114 u115 u116 u117 u118 u119 u120 u121 u122 u123 u124 u125 u126 u127 u128 u129 u130 u131 u132 u133 u134 u135 u136 u137 u138 u139 u140 u141 u142 u143 u144 u145 u146 u147 u148 u149 u150 u151 u152 u153 u154 u155 u156 u157 u158 u159 u160 u161 u162 u163 u164 u165 u166 u167 u168 u169 u170 u171 u172 u173 u174 u175 u176 u177 u178 u179 u180 u181 u182 u183 u184 u185 u186 u187 u188 u189 u190 u191 u192 u193 u194 u195 u196 u197 u198 u199 u200 u201 u202 u203 u204 u205 u206 u207 u208 u209 u210 u211 u212 u213 u214 u215 u216 u217 u218 u219 u220 u221 u222 u223 u224 u225 u226 u227 u228 u229 u230 u231 u232 u233 u234 u235 u236 u237 u238 u239 u240 u241 u242 u243 u244 u245 u246 u247 u248 u249 u250 u251 u252 u253 u254 u255 u256 u257 u258 u259 : Value) (K : Act → World → Prop) (hK : ∀ a u, D.wp Try.prog (bodyPost Try.prog Try.f3 (Ans w)) a u → K a u) :
    C.wp Try.prog (Exit.then K (bodyPost Try.prog Try.f3 (Ans w))) ⟨#[.slice p1 n1 c1, .slice p2 n2 c2, undef, undef, .bool false, .slice (some ⟨g2, 0, none⟩) (n1 + n2) k2, .pointer (some ⟨b3, 0, none⟩), .int .i64 0, .pointer (some ⟨b4, 0, none⟩), .int .i64 0, .pointer (some ⟨b5, 0, none⟩), .int .i64 0, .int .i64 zT, undef, undef, undef, u16, u17, u18, u19, u20, u21, u22, u23, u24, u25, u26, u27, u28, u29, u30, u31, u32, u33, u34, u35, u36, u37, u38, u39, u40, u41, u42, u43, u44, u45, u46, u47, u48, u49, u50, u51, u52, u53, u54, u55, u56, u57, u58, u59, u60, u61, u62, u63, u64, u65, u66, u67, u68, u69, u70, u71, u72, u73, u74, u75, u76, u77, u78, u79, u80, u81, u82, u83, u84, u85, u86, u87, u88, u89, u90, u91, u92, u93, u94, u95, u96, u97, u98, u99, u100, u101, u102, u103, u104, u105, u106, u107, u108, u109, u110, u111, u112, u113, u114, u115, u116, u117, u118, u119, u120, u121, u122, u123, u124, u125, u126, u127, u128, u129, u130, u131, u132, u133, u134, u135, u136, u137, u138, u139, u140, u141, u142, u143, u144, u145, u146, u147, u148, u149, u150, u151, u152, u153, u154, u155, u156, u157, u158, u159, u160, u161, u162, u163, u164, u165, u166, u167, u168, u169, u170, u171, u172, u173, u174, u175, u176, u177, u178, u179, u180, u181, u182, u183, u184, u185, u186, u187, u188, u189, u190, u191, u192, u193, u194, u195, u196, u197, u198, u199, u200, u201, u202, u203, u204, u205, u206, u207, u208, u209, u210, u211, u212, u213, u214, u215, u216, u217, u218, u219, u220, u221, u222, u223, u224, u225, u226, u227, u228, u229, u230, u231, u232, u233, u234, u235, u236, u237, u238, u239, u240, u241, u242, u243, u244, u245, u246, u247, u248, u249, u250, u251, u252, u253, u254, u255, u256, u257, u258, u259], []⟩ wc := by
  have hP := Option.some.inj ((rfl : (Try.f3.body).bind (restFrom 14) = some _).symm.trans hC)
  obtain ⟨hP1, hP2⟩ := Prod.mk.inj hP
  subst hP1 hP2
  clear hC hP
  have z0 := FZ.out.c 0 (.int .i64 (N3 : Nat)) rfl
  go_wp2
  obtain ⟨NI, hNI⟩ : ∃ NI : Int, Hid (NI = (N3 : Int)) := ⟨_, rfl⟩
  have HN : 0 ≤ NI ∧ NI ≤ 131072 := by rw [hNI.out]; omega
  rw [← hNI.out]
  go_loopw [14, 15] (fun i _ wr => ∃ k : Nat, k ≤ 4 ∧ i = .int .i64 k ∧ Hid (Below wc.heap.size wc wr)) (fun i _ _ => 4 - (intOf i).toNat)
  case atStart => exact ⟨0, Nat.zero_le _, rfl, Below.refl _ _⟩
  case round =>
    obtain ⟨k, hk, rfl, HK⟩ := hrel
    by_cases hk4 : k < 4
    · obtain ⟨xa, hxa⟩ : ∃ a, Hid (a = eR f1 k n1) := ⟨_, rfl⟩
      obtain ⟨xb, hxb⟩ : ∃ a, Hid (a = eI f1 k n1) := ⟨_, rfl⟩
      obtain ⟨ya, hya⟩ : ∃ a, Hid (a = eR f2 k n2) := ⟨_, rfl⟩
      obtain ⟨yb, hyb⟩ : ∃ a, Hid (a = eI f2 k n2) := ⟨_, rfl⟩
      obtain ⟨za, hza⟩ : ∃ a, Hid (a = eR F3 k N3) := ⟨_, rfl⟩
      obtain ⟨zb, hzb⟩ : ∃ a, Hid (a = eI F3 k N3) := ⟨_, rfl⟩
      have FX2 := FX.out.below HK.out
      have FY2 := FY.out.below HK.out
      have FZ2 := FZ.out.below HK.out
      have cxa : wr.cell? ⟨b3, 4 + k * 2, none⟩ = some (.int .i64 xa) := by rw [hxa.out]; exact FX2.c _ _ (teC_re f1 n1 k hk4).1
      have cxb : wr.cell? ⟨b3, 4 + k * 2 + 1, none⟩ = some (.int .i64 xb) := by rw [hxb.out]; exact FX2.c _ _ (teC_re f1 n1 k hk4).2
      have cya : wr.cell? ⟨b4, 4 + k * 2, none⟩ = some (.int .i64 ya) := by rw [hya.out]; exact FY2.c _ _ (teC_re f2 n2 k hk4).1
      have cyb : wr.cell? ⟨b4, 4 + k * 2 + 1, none⟩ = some (.int .i64 yb) := by rw [hyb.out]; exact FY2.c _ _ (teC_re f2 n2 k hk4).2
      have cza : wr.cell? ⟨b5, 4 + k * 2, none⟩ = some (.int .i64 za) := by rw [hza.out]; exact FZ2.c _ _ (teC_re F3 N3 k hk4).1
      have czb : wr.cell? ⟨b5, 4 + k * 2 + 1, none⟩ = some (.int .i64 zb) := by rw [hzb.out]; exact FZ2.c _ _ (teC_re F3 N3 k hk4).2
      have e1 : xa + ya = za := by rw [hxa.out, hya.out, hza.out]; exact (PE.out k).1.symm
      have e2 : xb + yb = zb := by rw [hxb.out, hyb.out, hzb.out]; exact (PE.out k).2.symm
      have hsum := e_sum F3 k N3
      rw [← hza.out, ← hzb.out, ← hNI.out] at hsum
      have hsq := sq_sum za zb N3 hsum.1
      rw [← hNI.out] at hsq
      have ba := eR_le F3 k N3
      have bb := eI_le F3 k N3
      rw [← hza.out] at ba
      rw [← hzb.out] at bb
      have k0 : (0 : Int) ≤ (k : Int) := by omega
      have k1 : (k : Int) < 4 := by omega
      go_upto_region 19 with fail
      have hgb : Below wr.heap.size wr (wr.alloc (.cells #[.int .i64 za, .int .i64 zb] 24)) := (Below.refl _ wr).alloc (Nat.le_refl _) _
      have HKB : Hid (Below wc.heap.size wc (wr.alloc (.cells #[.int .i64 za, .int .i64 zb] 24))) := HK.out.alloc HK.out.size _
      have hnw := heap_alloc_new wr (.cells #[.int .i64 za, .int .i64 zb] 24)
      have d0 : (wr.alloc (.cells #[.int .i64 za, .int .i64 zb] 24)).cell? ⟨wr.heap.size, 0, none⟩ = some (.int .i64 za) := by rw [cell_of_row _ wr.heap.size 0 _ 24 (0, 0) hnw]; rfl
      have d1 : (wr.alloc (.cells #[.int .i64 za, .int .i64 zb] 24)).cell? ⟨wr.heap.size, 1, none⟩ = some (.int .i64 zb) := by rw [cell_of_row _ wr.heap.size 1 _ 24 (0, 0) hnw]; rfl
      have exa := (hgb.cell (p := ⟨b3, 4 + k * 2, none⟩) FX2.lt).trans cxa
      have exb := (hgb.cell (p := ⟨b3, 4 + k * 2 + 1, none⟩) FX2.lt).trans cxb
      have eya := (hgb.cell (p := ⟨b4, 4 + k * 2, none⟩) FY2.lt).trans cya
      have eyb := (hgb.cell (p := ⟨b4, 4 + k * 2 + 1, none⟩) FY2.lt).trans cyb
      clear cxa cxb cya cyb cza czb FX2 FY2 FZ2 hgb hnw HK hxa hxb hya hyb hza hzb
      generalize wr.alloc (.cells #[.int .i64 za, .int .i64 zb] 24) = wv at d0 d1 exa exb eya eyb HKB ⊢
      generalize wr.heap.size = gb at d0 d1 ⊢
      have za1 : -131072 ≤ za ∧ za ≤ 131072 := by omega
      have zb1 : -131072 ≤ zb ∧ zb ≤ 131072 := by omega
      obtain ⟨M, hM⟩ : ∃ M, za + zb - NI = M := ⟨_, rfl⟩
      obtain ⟨SZ, hSZ⟩ : ∃ M, za + zb = M := ⟨_, rfl⟩
      rw [hM] at hsum
      have tm : Int.tmod M 2 = 0 := Int.tmod_eq_zero_of_dvd (Int.dvd_of_emod_eq_zero hsum.2)
      have sM : -1048576 ≤ M ∧ M ≤ 1048576 := by omega
      have sS : -1048576 ≤ SZ ∧ SZ ≤ 1048576 := by omega
      rw [hSZ] at hM
      have qa := sq_bound (a := za) (by omega)
      have qb := sq_bound (a := zb) (by omega)
      have qn := sq_bound (a := NI) (by omega)
      obtain ⟨A2, hA2⟩ : ∃ M, za * za = M := ⟨_, rfl⟩
      obtain ⟨B2, hB2⟩ : ∃ M, zb * zb = M := ⟨_, rfl⟩
      obtain ⟨N2, hN2⟩ : ∃ M, NI * NI = M := ⟨_, rfl⟩
      rw [hA2] at hsq qa
      rw [hB2] at hsq qb
      rw [hN2] at hsq qn
      have dq : decide (N2 < A2 + B2) = false := by simp only [decide_eq_false_iff_not]; omega
      clear ba bb hsum hsq
      go_quiet (fail)
      go_wp2
      exact ⟨⟨k + 1, by omega, by go_num, ⟨HKB.out.os, HKB.out.tape, HKB.out.output, HKB.out.size, HKB.out.block⟩⟩, by simp [intOf]; omega⟩
    · obtain rfl : k = 4 := by omega
      have FZ2 := FZ.out.below HK.out
      have z13 := FZ2.c 13 (.int .i64 (sqS (fun x => pk F3 x N3) 16 : Nat)) rfl
      have z12 := FZ2.c 12 (.int .i64 (frF F3 N3)) rfl
      have z4 := FZ2.c 4 _ (teC_re F3 N3 0 (by omega)).1
      have z5 := FZ2.c 5 _ (teC_re F3 N3 0 (by omega)).2
      have pb := poker_bounds F3 hf3.out N3
      have fe := fr_end F3 N3
      have fl := fr_le F3 N3
      have ba := eR_le F3 0 N3
      have bb := eI_le F3 0 N3
      rw [← hNI.out] at pb fl
      generalize ((sqS (fun x => pk F3 x N3) 16 : Nat) : Int) = PP at z13 pb
      generalize frF F3 N3 = FR at z12 fe fl
      generalize eR F3 0 N3 = ea at z4 fe ba
      generalize eI F3 0 N3 = eb at z5 fe bb
      have qa := sq_bound (a := ea) (by omega)
      have qb := sq_bound (a := eb) (by omega)
      have qn := sq_bound (a := NI) (by omega)
      obtain ⟨N2, hN2⟩ : ∃ M, NI * NI = M := ⟨_, rfl⟩
      rw [Int.mul_assoc, hN2] at pb
      rw [hN2] at qn fl
      obtain ⟨N4, hN4⟩ : ∃ M, 4 * NI = M := ⟨_, rfl⟩
      obtain ⟨N5, hN5⟩ : ∃ M, N4 * NI = M := ⟨_, rfl⟩
      have h45 : N5 = 4 * N2 := by rw [← hN5, ← hN4, ← hN2, Int.mul_assoc]
      obtain ⟨A2, hA2⟩ : ∃ M, ea * ea = M := ⟨_, rfl⟩
      obtain ⟨B2, hB2⟩ : ∃ M, eb * eb = M := ⟨_, rfl⟩
      rw [hA2] at fe qa
      rw [hB2] at fe qb
      obtain ⟨P4, hP4⟩ : ∃ M, 4 * PP = M := ⟨_, rfl⟩
      rw [hP4] at pb
      have g1 : decide (N2 ≤ P4) = true := by simp only [decide_eq_true_eq]; omega
      have g2 : decide (PP ≤ N5) = true := by simp only [decide_eq_true_eq]; omega
      have g3 : decide (A2 + B2 ≤ FR) = true := by simp only [decide_eq_true_eq]; omega
      have l1 : N5 ≤ 1099511627776 * 4 := by omega
      have HKB : Hid (Below wc.heap.size wc wr) := HK
      have bP : 0 ≤ P4 ∧ P4 ≤ 17592186044416 ∧ 0 ≤ PP := by omega
      have b5l : 0 ≤ N5 := by omega
      have b4l : 0 ≤ N4 ∧ N4 ≤ 524288 := by omega
      clear pb h45 ba bb FZ2 HK
      go_wp2
      go_ret
      exact ⟨rfl, HBC.out.trans (HKB.out.mono HBC.out.size)⟩
end Go.Proofs.Ytaejoohbmdckhaa
