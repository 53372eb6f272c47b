import Derived.Test.YtgmfiljjogdccabGreatDoorPart09
import Derived.Test.YtgmfiljjogdccabGreatDoorPart06
import Derived.Test.YtgmfiljjogdccabGreatDoorPart00
import Derived.Test.YtgmfiljjogdccabGreatDoorEnc
namespace Go.Proofs.YtgmfiljjogdccabGreatDoor
open Go.RowKit
set_option linter.unusedVariables false
/-- The bytes of a word, the highest first. -/
def btn (x : Nat) : Nat → Nat
 | 0 => bt0 x
 | 1 => bt1 x
 | 2 => bt2 x
 | _ => bt3 x
theorem btn0 (x : Nat) : btn x 0 = bt0 x := rfl
theorem btn1 (x : Nat) : btn x 1 = bt1 x := rfl
theorem btn2 (x : Nat) : btn x 2 = bt2 x := rfl
theorem btn3 (x : Nat) : btn x 3 = bt3 x := rfl
theorem btn_lt (x j : Nat) : btn x j < 256 := by
 unfold btn
 split <;> first | exact bt0_lt x | exact bt1_lt x | exact bt2_lt x | exact bt3_lt x
/-- A schedule's bytes, one behind the other. -/
def rb (K : Nat → Nat) (j : Nat) : Nat := btn (K (j / 4)) (j % 4)
theorem rb_lt (K : Nat → Nat) (j : Nat) : rb K j < 256 := btn_lt _ _
theorem rb_at (K : Nat → Nat) (i : Nat) : rb K (4 * i) = bt0 (K i) ∧ rb K (4 * i + 1) = bt1 (K i) ∧ rb K (4 * i + 2) = bt2 (K i) ∧ rb K (4 * i + 3) = bt3 (K i) := by
 refine ⟨?_, ?_, ?_, ?_⟩ <;> unfold rb
 ·rw [show 4 * i / 4 = i by omega, show 4 * i % 4 = 0 by omega]; exact btn0 _
 ·rw [show (4 * i + 1) / 4 = i by omega, show (4 * i + 1) % 4 = 1 by omega]; rfl
 ·rw [show (4 * i + 2) / 4 = i by omega, show (4 * i + 2) % 4 = 2 by omega]; rfl
 ·rw [show (4 * i + 3) / 4 = i by omega, show (4 * i + 3) % 4 = 3 by omega]; rfl
theorem rb_wd (K : Nat → Nat) (i : Nat) (h : K i < 4294967296) : wd (rb K (4 * i)) (rb K (4 * i + 1)) (rb K (4 * i + 2)) (rb K (4 * i + 3)) = K i := by
 obtain ⟨a, b, c, d⟩ := rb_at K i
 rw [a, b, c, d]
 exact wd_bt h
theorem goW_old (nk : Nat) (K0 : Nat → Nat) : ∀ m j, j < nk → goW nk K0 m j = K0 j
 | 0, j, _ => rfl
 | m + 1, j, h => by
  unfold goW upd
  rw [if_neg (by omega)]
  exact goW_old nk K0 m j h
theorem goW_stay (nk : Nat) (K0 : Nat → Nat) (m : Nat) : ∀ d j, j < nk + m → goW nk K0 (m + d) j = goW nk K0 m j
 | 0, j, _ => rfl
 | d + 1, j, h => by
  show goW nk K0 (m + d + 1) j = _
  rw [goW]
  unfold upd
  rw [if_neg (by omega)]
  exact goW_stay nk K0 m d j h
theorem goW_next (nk : Nat) (hn : 0 < nk) (K0 : Nat → Nat) (M m : Nat) (h : m < M) : goW nk K0 M (nk + m) = nextW nk (nk + m) (goW nk K0 M) := by
 have e : M = m + 1 + (M - m - 1) := by omega
 have h1 : goW nk K0 M (nk + m) = nextW nk (nk + m) (goW nk K0 m) := by
  rw [e, goW_stay nk K0 (m + 1) _ _ (by omega), goW]
  unfold upd
  rw [if_pos rfl]
 rw [h1]
 unfold nextW
 have e2 : M = m + (M - m) := by omega
 have h2 : goW nk K0 M (nk + m - nk) = goW nk K0 m (nk + m - nk) := by rw [e2, goW_stay nk K0 m _ _ (by omega)]
 have h3 : goW nk K0 M (nk + m - 1) = goW nk K0 m (nk + m - 1) := by rw [e2, goW_stay nk K0 m _ _ (by omega)]
 rw [h2, h3]
theorem schedK_next (nk : Nat) (hn : 0 < nk) (key : Nat → Nat) (i : Nat) (h1 : nk ≤ i) (h2 : i < 4 * nk + 28) : schedK nk key i = nextW nk i (schedK nk key) := by
 have := goW_next nk hn (keyW key (4 * nk)) (3 * nk + 28) (i - nk) (by omega)
 rw [show nk + (i - nk) = i by omega] at this
 exact this
/-- The key's own words: four bytes each. -/
theorem keyW_part (key : Nat → Nat) (hk : ∀ i, key i < 256) (q : Nat) : ∀ i,
  (i ≤ 4 * q → keyW key i q = 0) ∧ (i = 4 * q + 1 → keyW key i q = key (4 * q)) ∧ (i = 4 * q + 2 → keyW key i q = key (4 * q) * 256 + key (4 * q + 1)) ∧ (i = 4 * q + 3 → keyW key i q = (key (4 * q) * 256 + key (4 * q + 1)) * 256 + key (4 * q + 2)) ∧ (4 * q + 4 ≤ i → keyW key i q = wd (key (4 * q)) (key (4 * q + 1)) (key (4 * q + 2)) (key (4 * q + 3))) := by
 intro i
 induction i with
 | zero => exact ⟨fun _ => rfl, by omega, by omega, by omega, by omega⟩
 | succ i ih =>
  obtain ⟨a0, a1, a2, a3, a4⟩ := ih
  have k0 := hk (4 * q)
  have k1 := hk (4 * q + 1)
  have k2 := hk (4 * q + 2)
  have k3 := hk (4 * q + 3)
  refine ⟨fun h => ?_, fun h => ?_, fun h => ?_, fun h => ?_, fun h => ?_⟩ <;> unfold keyW upd
  ·rw [if_neg (by omega)]; exact a0 (by omega)
  ·obtain rfl : i = 4 * q := by omega
   rw [if_pos (by omega), show 4 * q / 4 = q by omega, a0 (by omega)]; omega
  ·obtain rfl : i = 4 * q + 1 := by omega
   rw [if_pos (by omega), show (4 * q + 1) / 4 = q by omega, a1 rfl]; omega
  ·obtain rfl : i = 4 * q + 2 := by omega
   rw [if_pos (by omega), show (4 * q + 2) / 4 = q by omega, a2 rfl]; omega
  ·by_cases h3 : i = 4 * q + 3
   ·subst h3
    rw [if_pos (by omega), show (4 * q + 3) / 4 = q by omega, a3 rfl]; unfold wd; omega
   ·rw [if_neg (by omega)]; exact a4 (by omega)
theorem rb_key (nk : Nat) (key : Nat → Nat) (hk : ∀ i, key i < 256) (j : Nat) (h : j < 4 * nk) : rb (schedK nk key) j = key j := by
 have h1 : schedK nk key (j / 4) = wd (key (4 * (j / 4))) (key (4 * (j / 4) + 1)) (key (4 * (j / 4) + 2)) (key (4 * (j / 4) + 3)) := by
  unfold schedK
  rw [goW_old nk _ _ _ (by omega)]
  exact (keyW_part key hk (j / 4) (4 * nk)).2.2.2.2 (by omega)
 obtain ⟨b0, b1, b2, b3⟩ := bt_wd (hk (4 * (j / 4))) (hk (4 * (j / 4) + 1)) (hk (4 * (j / 4) + 2)) (hk (4 * (j / 4) + 3))
 unfold rb
 rw [h1]
 have hm : j % 4 = 0 ∨ j % 4 = 1 ∨ j % 4 = 2 ∨ j % 4 = 3 := by omega
 rcases hm with e | e | e | e <;> rw [e]
 ·rw [btn0, b0]; exact congrArg key (by omega)
 ·rw [btn1, b1]; exact congrArg key (by omega)
 ·rw [btn2, b2]; exact congrArg key (by omega)
 ·rw [btn3, b3]; exact congrArg key (by omega)
/-- The round constants as powers. -/
def rcP : Nat → Nat
 | 0 => 1
 | m + 1 => tmsN 8 0 (rcP m) 2
theorem rcP_lt : ∀ m, rcP m < 256
 | 0 => by decide
 | m + 1 => times_lt (rcP_lt m) (by decide)
theorem rcP_rc : ∀ m : Fin 10, rcP m.1 = rcT m.1 := by decide +kernel
/-- What the word behind is added with: four bytes. -/
def tB (nk i : Nat) (K : Nat → Nat) (c : Nat) : Nat :=
 if i % nk = 0 then Nat.xor (SB (rb K (4 * i - 4 + (c + 1) % 4))) (if c = 0 then rcP ((i - 1) / nk) else 0)
 else if nk = 8 ∧ i % 8 = 4 then SB (rb K (4 * i - 4 + c)) else rb K (4 * i - 4 + c)
theorem xor_zero8 (a : Nat) : Nat.xor a 0 = a := Nat.xor_zero a
theorem tB_lt (nk i : Nat) (K : Nat → Nat) (c : Nat) : tB nk i K c < 256 := by
 unfold tB
 split
 ·split
  ·exact xor_lt8 (SB_lt _) (rcP_lt _)
  ·rw [xor_zero8]; exact SB_lt _
 ·split
  ·exact SB_lt _
  ·exact rb_lt _ _
theorem next_tB (nk i : Nat) (hnk : nk = 4 ∨ nk = 6 ∨ nk = 8) (h1 : nk ≤ i) (h2 : i < 4 * nk + 28) (K : Nat → Nat) (hK : ∀ j, K j < 4294967296) : nextW nk i K = Nat.xor (K (i - nk)) (wd (tB nk i K 0) (tB nk i K 1) (tB nk i K 2) (tB nk i K 3)) := by
 have hi : 1 ≤ i := by omega
 obtain ⟨p, hp⟩ : ∃ p, i = p + 1 := ⟨i - 1, by omega⟩
 subst hp
 obtain ⟨r0, r1, r2, r3⟩ := rb_at K p
 have e0 : 4 * (p + 1) - 4 = 4 * p := by omega
 unfold nextW
 congr 1
 simp only [tB, e0, Nat.add_sub_cancel]
 by_cases hz : (p + 1) % nk = 0
 ·have hc : rcT ((p + 1) / nk - 1) = rcP (p / nk) := by
   have hq : (p + 1) / nk - 1 = p / nk ∧ p / nk < 10 := by rcases hnk with rfl | rfl | rfl <;> omega
   rw [hq.1]
   exact (rcP_rc ⟨p / nk, hq.2⟩).symm
  have hcl := rcP_lt (p / nk)
  rw [if_pos hz, if_pos hz, if_pos hz, if_pos hz, if_pos hz, hc]
  simp only [if_true, show (1 = 0) = False by simp, show (2 = 0) = False by simp, show (3 = 0) = False by simp, if_false, xor_zero8, show (0 + 1) % 4 = 1 from rfl, show (1 + 1) % 4 = 2 from rfl, show (2 + 1) % 4 = 3 from rfl, show (3 + 1) % 4 = 0 from rfl, Nat.add_zero, r0, r1, r2, r3]
  obtain ⟨b0, b1, b2, b3⟩ := bt_wd (bt1_lt (K p)) (bt2_lt (K p)) (bt3_lt (K p)) (bt0_lt (K p))
  have hs : subw (rotw (K p)) = wd (SB (bt1 (K p))) (SB (bt2 (K p))) (SB (bt3 (K p))) (SB (bt0 (K p))) := by
   unfold subw lastw rotw
   rw [b0, b1, b2, b3]
  have hr : rcP (p / nk) * 16777216 = wd (rcP (p / nk)) 0 0 0 := by unfold wd; omega
  rw [hs, hr, wd_xor _ _ _ _ _ _ _ _ (SB_lt _) (SB_lt _) (SB_lt _) (by decide) (by decide) (by decide), xor_zero8, xor_zero8, xor_zero8]
 ·rw [if_neg hz, if_neg hz, if_neg hz, if_neg hz, if_neg hz]
  simp only [Nat.add_zero, r0, r1, r2, r3]
  by_cases h8 : nk = 8 ∧ (p + 1) % 8 = 4
  ·rw [if_pos h8, if_pos h8, if_pos h8, if_pos h8, if_pos h8]
   rfl
  ·rw [if_neg h8, if_neg h8, if_neg h8, if_neg h8, if_neg h8]
   exact (wd_bt (hK p)).symm
theorem rb_next (nk : Nat) (hnk : nk = 4 ∨ nk = 6 ∨ nk = 8) (key : Nat → Nat) (hk : ∀ i, key i < 256) (i c : Nat) (h1 : nk ≤ i) (h2 : i < 4 * nk + 28) (hc : c < 4) :
  rb (schedK nk key) (4 * i + c) = Nat.xor (rb (schedK nk key) (4 * (i - nk) + c)) (tB nk i (schedK nk key) c) := by
 have hK := schedK_lt (nk := nk) hk
 have e := schedK_next nk (by omega) key i h1 h2
 rw [next_tB nk i hnk h1 h2 _ hK] at e
 generalize schedK nk key = K at *
 have a := wd_bt (hK (i - nk))
 rw [← a, wd_xor _ _ _ _ _ _ _ _ (bt1_lt _) (bt2_lt _) (bt3_lt _) (tB_lt _ _ _ _) (tB_lt _ _ _ _) (tB_lt _ _ _ _)] at e
 obtain ⟨b0, b1, b2, b3⟩ := bt_wd (xor_lt8 (bt0_lt (K (i - nk))) (tB_lt nk i K 0)) (xor_lt8 (bt1_lt (K (i - nk))) (tB_lt nk i K 1)) (xor_lt8 (bt2_lt (K (i - nk))) (tB_lt nk i K 2)) (xor_lt8 (bt3_lt (K (i - nk))) (tB_lt nk i K 3))
 obtain ⟨r0, r1, r2, r3⟩ := rb_at K i
 obtain ⟨s0, s1, s2, s3⟩ := rb_at K (i - nk)
 rw [← e] at b0 b1 b2 b3
 have hm : c = 0 ∨ c = 1 ∨ c = 2 ∨ c = 3 := by omega
 rcases hm with rfl | rfl | rfl | rfl
 ·rw [Nat.add_zero, Nat.add_zero, r0, s0]; exact b0
 ·rw [r1, s1]; exact b1
 ·rw [r2, s2]; exact b2
 ·rw [r3, s3]; exact b3
end Go.Proofs.YtgmfiljjogdccabGreatDoor
namespace Go.Proofs.YtgmfiljjogdccabGreatDoor
open Go.RowKit
set_option linter.unusedVariables false
set_option linter.unusedSimpArgs false
set_option maxHeartbeats 6400000 in
set_option maxRecDepth 100000 in
theorem dec_r6 {Q : Exit → Act → World → Prop} (s1 s2 s3 s4 s6 s7 s8 s9 s10 s11 s12 s13 s14 s15 s16 s17 s18 s19 s20 s21 s22 s23 s24 s25 s26 s27 s28 s29 s30 s31 s32 s33 s34 s35 s36 s37 s38 s39 s40 s41 s42 s43 s44 s45 s46 s47 s48 s49 s50 s51 s52 s53 s54 s55 s56 s57 s58 s59 s60 s61 s62 s63 s64 s65 s66 s67 s68 s69 s70 s71 s72 s73 s74 s75 s76 s77 s78 s79 s80 s81 s82 s83 s84 s85 s86 s87 s88 s89 s90 s91 s92 s93 s94 s95 s96 s97 s98 s99 s100 s101 s102 s103 s104 s105 s106 s107 s108 s109 s110 s111 s112 s113 s114 s115 s116 s117 s118 s119 s120 s121 s122 s123 s124 s125 s126 s127 s128 : Value) (g o A n0 n1 n2 n3 y0 y1 y2 y3 : Nat) (wr : World)
  (k0 : Hid (∀ u, Below (A + 1) wr u → Calls Tryz.prog 80 #[.pointer (some ⟨g, o, none⟩), .int .u32 (n0 : Nat)] u fun e u' => e = .returned (.int .u32 (y0 : Nat)) ∧ Below (A + 1) wr u'))
  (k1 : Hid (∀ u, Below (A + 1) wr u → Calls Tryz.prog 80 #[.pointer (some ⟨g, o, none⟩), .int .u32 (n1 : Nat)] u fun e u' => e = .returned (.int .u32 (y1 : Nat)) ∧ Below (A + 1) wr u'))
  (k2 : Hid (∀ u, Below (A + 1) wr u → Calls Tryz.prog 80 #[.pointer (some ⟨g, o, none⟩), .int .u32 (n2 : Nat)] u fun e u' => e = .returned (.int .u32 (y2 : Nat)) ∧ Below (A + 1) wr u'))
  (k3 : Hid (∀ u, Below (A + 1) wr u → Calls Tryz.prog 80 #[.pointer (some ⟨g, o, none⟩), .int .u32 (n3 : Nat)] u fun e u' => e = .returned (.int .u32 (y3 : Nat)) ∧ Below (A + 1) wr u'))
  (g0 : Hid (∀ u, Below (A + 1) wr u → u.cell? ⟨A, 0, none⟩ = some (.int .u32 (n0 : Nat))))
  (g1 : Hid (∀ u, Below (A + 1) wr u → u.cell? ⟨A, 1, none⟩ = some (.int .u32 (n1 : Nat))))
  (g2 : Hid (∀ u, Below (A + 1) wr u → u.cell? ⟨A, 2, none⟩ = some (.int .u32 (n2 : Nat))))
  (g3 : Hid (∀ u, Below (A + 1) wr u → u.cell? ⟨A, 3, none⟩ = some (.int .u32 (n3 : Nat))))
  (hth : wr.there A 0 4)
  (HQ : ∀ v3, Below (A + 1) wr v3 → Q .normal ⟨#[.pointer (some ⟨g, o, none⟩), s1, s2, s3, s4, .pointer (some ⟨A, 0, none⟩), s6, s7, s8, s9, s10, s11, s12, s13, s14, s15, s16, s17, s18, s19, s20, s21, s22, s23, s24, s25, s26, s27, s28, s29, s30, s31, s32, s33, s34, s35, s36, s37, s38, s39, s40, s41, s42, s43, s44, s45, s46, s47, s48, s49, s50, s51, s52, s53, s54, s55, s56, s57, s58, s59, s60, s61, s62, s63, s64, s65, s66, s67, .pointer (some ⟨g, o, none⟩), .pointer (some ⟨A, 0, none⟩), .int .u32 (n0 : Nat), .int .u32 (y0 : Nat), .pointer (some ⟨g, o, none⟩), .pointer (some ⟨A, 1, none⟩), .int .u32 (n1 : Nat), .int .u32 (y1 : Nat), .pointer (some ⟨g, o, none⟩), .pointer (some ⟨A, 2, none⟩), .int .u32 (n2 : Nat), .int .u32 (y2 : Nat), .pointer (some ⟨g, o, none⟩), .pointer (some ⟨A, 3, none⟩), .int .u32 (n3 : Nat), .int .u32 (y3 : Nat), .agg #[.int .u32 (y0 : Nat), .int .u32 (y1 : Nat), .int .u32 (y2 : Nat), .int .u32 (y3 : Nat)], s85, s86, s87, s88, s89, s90, s91, s92, s93, s94, s95, s96, s97, s98, s99, s100, s101, s102, s103, s104, s105, s106, s107, s108, s109, s110, s111, s112, s113, s114, s115, s116, s117, s118, s119, s120, s121, s122, s123, s124, s125, s126, s127, s128], []⟩ (v3.setCells A 0 [.int .u32 (y0 : Nat), .int .u32 (y1 : Nat), .int .u32 (y2 : Nat), .int .u32 (y3 : Nat)])) :
  (Code.region 6 #[{ dst := some 68, op := Op.move (Operand.tmp 0), type := 119, pos := "cipher.go:128", after := #[], guard := none }, { dst := some 69, op := Op.indexAddr 131 (Operand.tmp 5) (Operand.const (Value.int IntKind.i64 0)), type := 0, pos := "cipher.go:128", after := #[], guard := none }, { dst := some 70, op := Op.load 43 (Operand.tmp 69), type := 43, pos := "cipher.go:128", after := #[{ on := 1, ground := Ground.data }], guard := none }, { dst := some 71, op := Op.call { callee := Callee.value (Operand.func 80), args := #[Operand.tmp 68, Operand.tmp 70], argTypes := #[119, 43] }, type := 43, pos := "cipher.go:128", after := #[{ on := 0, ground := Ground.data }, { on := 2, ground := Ground.data }], guard := none }, { dst := some 72, op := Op.move (Operand.tmp 0), type := 119, pos := "cipher.go:128", after := #[], guard := none }, { dst := some 73, op := Op.indexAddr 131 (Operand.tmp 5) (Operand.const (Value.int IntKind.i64 1)), type := 0, pos := "cipher.go:128", after := #[], guard := none }, { dst := some 74, op := Op.load 43 (Operand.tmp 73), type := 43, pos := "cipher.go:128", after := #[{ on := 5, ground := Ground.data }], guard := none }, { dst := some 75, op := Op.call { callee := Callee.value (Operand.func 80), args := #[Operand.tmp 72, Operand.tmp 74], argTypes := #[119, 43] }, type := 43, pos := "cipher.go:128", after := #[{ on := 4, ground := Ground.data }, { on := 6, ground := Ground.data }, { on := 3, ground := Ground.chain }], guard := none }, { dst := some 76, op := Op.move (Operand.tmp 0), type := 119, pos := "cipher.go:128", after := #[], guard := none }, { dst := some 77, op := Op.indexAddr 131 (Operand.tmp 5) (Operand.const (Value.int IntKind.i64 2)), type := 0, pos := "cipher.go:128", after := #[], guard := none }, { dst := some 78, op := Op.load 43 (Operand.tmp 77), type := 43, pos := "cipher.go:128", after := #[{ on := 9, ground := Ground.data }], guard := none }, { dst := some 79, op := Op.call { callee := Callee.value (Operand.func 80), args := #[Operand.tmp 76, Operand.tmp 78], argTypes := #[119, 43] }, type := 43, pos := "cipher.go:128", after := #[{ on := 8, ground := Ground.data }, { on := 10, ground := Ground.data }, { on := 7, ground := Ground.chain }], guard := none }, { dst := some 80, op := Op.move (Operand.tmp 0), type := 119, pos := "cipher.go:128", after := #[], guard := none }, { dst := some 81, op := Op.indexAddr 131 (Operand.tmp 5) (Operand.const (Value.int IntKind.i64 3)), type := 0, pos := "cipher.go:128", after := #[], guard := none }, { dst := some 82, op := Op.load 43 (Operand.tmp 81), type := 43, pos := "cipher.go:128", after := #[{ on := 13, ground := Ground.data }], guard := none }, { dst := some 83, op := Op.call { callee := Callee.value (Operand.func 80), args := #[Operand.tmp 80, Operand.tmp 82], argTypes := #[119, 43] }, type := 43, pos := "cipher.go:128", after := #[{ on := 12, ground := Ground.data }, { on := 14, ground := Ground.data }, { on := 11, ground := Ground.chain }], guard := none }, { dst := some 84, op := Op.build 131 #[(0, Operand.tmp 71), (1, Operand.tmp 75), (2, Operand.tmp 79), (3, Operand.tmp 83)], type := 131, pos := "cipher.go:128", after := #[{ on := 3, ground := Ground.data }, { on := 7, ground := Ground.data }, { on := 11, ground := Ground.data }, { on := 15, ground := Ground.data }], guard := none }, { dst := none, op := Op.store 131 (Operand.tmp 5) (Operand.tmp 84), type := 0, pos := "cipher.go:128", after := #[{ on := 16, ground := Ground.data }, { on := 15, ground := Ground.chain }, { on := 0, ground := Ground.phase }, { on := 1, ground := Ground.phase }, { on := 2, ground := Ground.phase }, { on := 3, ground := Ground.phase }, { on := 4, ground := Ground.phase }, { on := 5, ground := Ground.phase }, { on := 6, ground := Ground.phase }, { on := 7, ground := Ground.phase }, { on := 8, ground := Ground.phase }, { on := 9, ground := Ground.phase }, { on := 10, ground := Ground.phase }, { on := 11, ground := Ground.phase }, { on := 12, ground := Ground.phase }, { on := 13, ground := Ground.phase }, { on := 14, ground := Ground.phase }, { on := 15, ground := Ground.phase }, { on := 16, ground := Ground.phase }], guard := none }] true).wp Tryz.prog Q ⟨#[.pointer (some ⟨g, o, none⟩), s1, s2, s3, s4, .pointer (some ⟨A, 0, none⟩), s6, s7, s8, s9, s10, s11, s12, s13, s14, s15, s16, s17, s18, s19, s20, s21, s22, s23, s24, s25, s26, s27, s28, s29, s30, s31, s32, s33, s34, s35, s36, s37, s38, s39, s40, s41, s42, s43, s44, s45, s46, s47, s48, s49, s50, s51, s52, s53, s54, s55, s56, s57, s58, s59, s60, s61, s62, s63, s64, s65, s66, s67, s68, s69, s70, s71, s72, s73, s74, s75, s76, s77, s78, s79, s80, s81, s82, s83, s84, s85, s86, s87, s88, s89, s90, s91, s92, s93, s94, s95, s96, s97, s98, s99, s100, s101, s102, s103, s104, s105, s106, s107, s108, s109, s110, s111, s112, s113, s114, s115, s116, s117, s118, s119, s120, s121, s122, s123, s124, s125, s126, s127, s128], []⟩ wr := by
 have hS0 : Below (A + 1) wr wr.drew := (Below.refl _ _).drew
 refine wp_region_noPanic ?_
 refine wp_region_till (fun u => Below (A + 1) wr u) 17 (by kernel_rfl) (by decide) (by decide +kernel) (by decide +kernel) (by decide +kernel) (fun inv => ?_)
 refine tU 0 68 (.pointer (some ⟨g, o, none⟩)) inv rfl rfl hS0 fun inv => ?_
 simp only [pU]
 refine tU 1 69 (.pointer (some ⟨A, 0, none⟩)) inv rfl rfl hS0 fun inv => ?_
 simp only [pU]
 refine tV 2 70 (.int .u32 (n0 : Nat)) inv rfl rfl hS0 g0.out fun inv => ?_
 simp only [pU]
 refine tU 4 72 (.pointer (some ⟨g, o, none⟩)) inv rfl rfl hS0 fun inv => ?_
 simp only [pU]
 refine tU 5 73 (.pointer (some ⟨A, 1, none⟩)) inv rfl rfl hS0 fun inv => ?_
 simp only [pU]
 refine tV 6 74 (.int .u32 (n1 : Nat)) inv rfl rfl hS0 g1.out fun inv => ?_
 simp only [pU]
 refine tU 8 76 (.pointer (some ⟨g, o, none⟩)) inv rfl rfl hS0 fun inv => ?_
 simp only [pU]
 refine tU 9 77 (.pointer (some ⟨A, 2, none⟩)) inv rfl rfl hS0 fun inv => ?_
 simp only [pU]
 refine tV 10 78 (.int .u32 (n2 : Nat)) inv rfl rfl hS0 g2.out fun inv => ?_
 simp only [pU]
 refine tU 12 80 (.pointer (some ⟨g, o, none⟩)) inv rfl rfl hS0 fun inv => ?_
 simp only [pU]
 refine tU 13 81 (.pointer (some ⟨A, 3, none⟩)) inv rfl rfl hS0 fun inv => ?_
 simp only [pU]
 refine tV 14 82 (.int .u32 (n3 : Nat)) inv rfl rfl hS0 g3.out fun inv => ?_
 simp only [pU]
 refine till_head (i := 3) inv (by decide +kernel) (by decide) rfl (fun K hK => ?_)
 go_simp
 refine (k0.out _ hS0).mono ?_
 rintro e1 v0 ⟨rfl, hv0⟩
 go_wp2_with fail
 refine hK.out _ _ hv0 (fun inv' => ?_)
 clear hK K inv; have inv := inv'; clear inv'
 try simp only [pU]
 refine till_head (i := 7) inv (by decide +kernel) (by decide) rfl (fun K hK => ?_)
 go_simp
 refine (k1.out _ hv0).mono ?_
 rintro e1 v1 ⟨rfl, hv1⟩
 go_wp2_with fail
 refine hK.out _ _ hv1 (fun inv' => ?_)
 clear hK K inv; have inv := inv'; clear inv'
 try simp only [pU]
 refine till_head (i := 11) inv (by decide +kernel) (by decide) rfl (fun K hK => ?_)
 go_simp
 refine (k2.out _ hv1).mono ?_
 rintro e1 v2 ⟨rfl, hv2⟩
 go_wp2_with fail
 refine hK.out _ _ hv2 (fun inv' => ?_)
 clear hK K inv; have inv := inv'; clear inv'
 try simp only [pU]
 refine till_head (i := 15) inv (by decide +kernel) (by decide) rfl (fun K hK => ?_)
 go_simp
 refine (k3.out _ hv2).mono ?_
 rintro e1 v3 ⟨rfl, hv3⟩
 go_wp2_with fail
 refine hK.out _ _ hv3 (fun inv' => ?_)
 clear hK K inv; have inv := inv'; clear inv'
 try simp only [pU]
 refine tT 16 84 (.agg #[.int .u32 (y0 : Nat), .int .u32 (y1 : Nat), .int .u32 (y2 : Nat), .int .u32 (y3 : Nat)]) inv rfl rfl (by decide +kernel) (hv3) (yieldsIf_build (by rfl) 131 #[(0, .tmp 71), (1, .tmp 75), (2, .tmp 79), (3, .tmp 83)] rfl _ (by simp only [List.map_toArray, List.map_cons, List.map_nil]; kernel_rfl)) (fun inv => ?_)
 simp only [pU]
 refine till_tail (i := 17) (by decide +kernel) (by decide) rfl (fun K hK => ?_)
 rw [if_pos (by rfl)]
 refine wp_store_mid 131 (.tmp 5) (.tmp 84) rfl A 0 #[.int .u32 (y0 : Nat), .int .u32 (y1 : Nat), .int .u32 (y2 : Nat), .int .u32 (y3 : Nat)] rfl rfl (there_below hth hv3 (Nat.lt_succ_self A)) (size115) (by kernel_rfl) ?_
 refine hK.out _ _ ?_
 clear hK K
 try simp only [pU]
 refine till_done (by decide +kernel) ?_ _
 refine NoPanic.normal ?_
 exact HQ _ hv3
end Go.Proofs.YtgmfiljjogdccabGreatDoor
