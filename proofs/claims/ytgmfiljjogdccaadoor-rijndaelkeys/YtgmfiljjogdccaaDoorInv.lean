import Derived.Test.YtgmfiljjogdccaaDoorCiph
namespace Go.Proofs.YtgmfiljjogdccaaDoor
open Go.RowKit
set_option linter.unusedVariables false
theorem xor_self_right (a k : Nat) : Nat.xor (Nat.xor a k) k = a := by
  show (a ^^^ k) ^^^ k = a
  rw [Nat.xor_assoc, Nat.xor_self, Nat.xor_zero]
theorem addK_addK (K : Nat → Nat) (r : Nat) (s : W4) : addK K r (addK K r s) = s := by
  unfold addK
  simp only [xor_self_right]
/-- The bytes of a word of bytes. -/
theorem bt_wd {a b c d : Nat} (ha : a < 256) (hb : b < 256) (hc : c < 256) (hd : d < 256) : bt0 (wd a b c d) = a ∧ bt1 (wd a b c d) = b ∧ bt2 (wd a b c d) = c ∧ bt3 (wd a b c d) = d := by
  unfold bt0 bt1 bt2 bt3 wd
  omega
theorem U_S {b : Nat} (h : b < 256) : UB (SB b) = b := (UB_SB ⟨b, h⟩).1
theorem S_U {b : Nat} (h : b < 256) : SB (UB b) = b := (UB_SB ⟨b, h⟩).2
theorem bt_last (a b c d : Nat) : bt0 (lastw a b c d) = SB (bt0 a) ∧ bt1 (lastw a b c d) = SB (bt1 b) ∧ bt2 (lastw a b c d) = SB (bt2 c) ∧ bt3 (lastw a b c d) = SB (bt3 d) := bt_wd (SB_lt _) (SB_lt _) (SB_lt _) (SB_lt _)
theorem bt_undo (a b c d : Nat) : bt0 (undow a b c d) = UB (bt0 a) ∧ bt1 (undow a b c d) = UB (bt1 b) ∧ bt2 (undow a b c d) = UB (bt2 c) ∧ bt3 (undow a b c d) = UB (bt3 d) := bt_wd (UB_lt _) (UB_lt _) (UB_lt _) (UB_lt _)
theorem undo_last (s : W4) (hs : s.ok) : undoS (lastS s) = s := by
  obtain ⟨a, b, c, d⟩ := s
  obtain ⟨ha, hb, hc, hd⟩ := hs
  simp only at ha hb hc hd
  simp only [undoS, lastS, undow, (bt_last _ _ _ _).1, (bt_last _ _ _ _).2.1, (bt_last _ _ _ _).2.2.1, (bt_last _ _ _ _).2.2.2, U_S (bt0_lt _), U_S (bt1_lt _), U_S (bt2_lt _), U_S (bt3_lt _), wd_bt ha, wd_bt hb, wd_bt hc, wd_bt hd]
theorem last_undo (s : W4) (hs : s.ok) : lastS (undoS s) = s := by
  obtain ⟨a, b, c, d⟩ := s
  obtain ⟨ha, hb, hc, hd⟩ := hs
  simp only at ha hb hc hd
  simp only [undoS, lastS, lastw, (bt_undo _ _ _ _).1, (bt_undo _ _ _ _).2.1, (bt_undo _ _ _ _).2.2.1, (bt_undo _ _ _ _).2.2.2, S_U (bt0_lt _), S_U (bt1_lt _), S_U (bt2_lt _), S_U (bt3_lt _), wd_bt ha, wd_bt hb, wd_bt hc, wd_bt hd]
/-- A column multiplied. -/
def mcw (x : Nat) : Nat :=
  wd (Nat.xor (Nat.xor (Nat.xor (x2 (bt0 x)) (x3 (bt1 x))) (bt2 x)) (bt3 x)) (Nat.xor (Nat.xor (Nat.xor (bt0 x) (x2 (bt1 x))) (x3 (bt2 x))) (bt3 x))
    (Nat.xor (Nat.xor (Nat.xor (bt0 x) (bt1 x)) (x2 (bt2 x))) (x3 (bt3 x))) (Nat.xor (Nat.xor (Nat.xor (x3 (bt0 x)) (bt1 x)) (bt2 x)) (x2 (bt3 x)))
def mcS (s : W4) : W4 := ⟨mcw s.a, mcw s.b, mcw s.c, mcw s.d⟩
theorem xl2 {b : Nat} (h : b < 256) : x2 b < 256 := (x_lt ⟨b, h⟩).1
theorem xl3 {b : Nat} (h : b < 256) : x3 b < 256 := (x_lt ⟨b, h⟩).2.1
theorem xl9 {b : Nat} (h : b < 256) : x9 b < 256 := (x_lt ⟨b, h⟩).2.2.1
theorem xl11 {b : Nat} (h : b < 256) : x11 b < 256 := (x_lt ⟨b, h⟩).2.2.2.1
theorem xl13 {b : Nat} (h : b < 256) : x13 b < 256 := (x_lt ⟨b, h⟩).2.2.2.2.1
theorem xl14 {b : Nat} (h : b < 256) : x14 b < 256 := (x_lt ⟨b, h⟩).2.2.2.2.2
theorem mix_mc (a b c d : Nat) : mixw a b c d = mcw (lastw a b c d) := by
  unfold mixw mixc mcw
  obtain ⟨e0, e1, e2, e3⟩ := bt_last a b c d
  rw [e0, e1, e2, e3]
  have p := SB_lt (bt0 a)
  have q := SB_lt (bt1 b)
  have r := SB_lt (bt2 c)
  have t := SB_lt (bt3 d)
  unfold MX M8 M16 M24
  rw [wd_xor _ _ _ _ _ _ _ _ p p (xl3 p) (xl2 q) q q, wd_xor _ _ _ _ _ _ _ _ (xor_lt8 p (xl2 q)) (xor_lt8 p q) (xor_lt8 (xl3 p) q) (xl3 r) (xl2 r) r, wd_xor _ _ _ _ _ _ _ _ (xor_lt8 (xor_lt8 p (xl2 q)) (xl3 r)) (xor_lt8 (xor_lt8 p q) (xl2 r)) (xor_lt8 (xor_lt8 (xl3 p) q) r) t (xl3 t) (xl2 t)]
/-- Doubling is additive. -/
def addB (a b : Nat) : Bool := Nat.beq (dblN (Nat.xor a b)) (Nat.xor (dblN a) (dblN b))
set_option maxRecDepth 100000 in
theorem addB_all : allB (fun a => allB (addB a) 256) 256 = true := by decide +kernel
theorem dbl_add {a b : Nat} (ha : a < 256) (hb : b < 256) : dblN (a ^^^ b) = dblN a ^^^ dblN b := Nat.eq_of_beq_eq_true (allB_at (allB_at addB_all ha) hb)
theorem x2_add {a b : Nat} (ha : a < 256) (hb : b < 256) : x2 (a ^^^ b) = x2 a ^^^ x2 b := dbl_add ha hb
theorem d_lt {a : Nat} (h : a < 256) : dblN a < 256 := dbl_lt ⟨a, h⟩
theorem x3_add {a b : Nat} (ha : a < 256) (hb : b < 256) : x3 (a ^^^ b) = x3 a ^^^ x3 b := by
  show dblN (a ^^^ b) ^^^ (a ^^^ b) = (dblN a ^^^ a) ^^^ (dblN b ^^^ b)
  rw [dbl_add ha hb]; ac_rfl
theorem d4_add {a b : Nat} (ha : a < 256) (hb : b < 256) : dblN (dblN (a ^^^ b)) = dblN (dblN a) ^^^ dblN (dblN b) := by rw [dbl_add ha hb, dbl_add (d_lt ha) (d_lt hb)]
theorem d8_add {a b : Nat} (ha : a < 256) (hb : b < 256) : dblN (dblN (dblN (a ^^^ b))) = dblN (dblN (dblN a)) ^^^ dblN (dblN (dblN b)) := by rw [d4_add ha hb, dbl_add (d_lt (d_lt ha)) (d_lt (d_lt hb))]
theorem x9_add {a b : Nat} (ha : a < 256) (hb : b < 256) : x9 (a ^^^ b) = x9 a ^^^ x9 b := by
  show dblN (dblN (dblN (a ^^^ b))) ^^^ (a ^^^ b) = (dblN (dblN (dblN a)) ^^^ a) ^^^ (dblN (dblN (dblN b)) ^^^ b)
  rw [d8_add ha hb]; ac_rfl
theorem x11_add {a b : Nat} (ha : a < 256) (hb : b < 256) : x11 (a ^^^ b) = x11 a ^^^ x11 b := by
  show (dblN (dblN (dblN (a ^^^ b))) ^^^ dblN (a ^^^ b)) ^^^ (a ^^^ b) = ((dblN (dblN (dblN a)) ^^^ dblN a) ^^^ a) ^^^ ((dblN (dblN (dblN b)) ^^^ dblN b) ^^^ b)
  rw [d8_add ha hb, dbl_add ha hb]; ac_rfl
theorem x13_add {a b : Nat} (ha : a < 256) (hb : b < 256) : x13 (a ^^^ b) = x13 a ^^^ x13 b := by
  show (dblN (dblN (dblN (a ^^^ b))) ^^^ dblN (dblN (a ^^^ b))) ^^^ (a ^^^ b) = ((dblN (dblN (dblN a)) ^^^ dblN (dblN a)) ^^^ a) ^^^ ((dblN (dblN (dblN b)) ^^^ dblN (dblN b)) ^^^ b)
  rw [d8_add ha hb, d4_add ha hb]; ac_rfl
theorem x14_add {a b : Nat} (ha : a < 256) (hb : b < 256) : x14 (a ^^^ b) = x14 a ^^^ x14 b := by
  show (dblN (dblN (dblN (a ^^^ b))) ^^^ dblN (dblN (a ^^^ b))) ^^^ dblN (a ^^^ b) = ((dblN (dblN (dblN a)) ^^^ dblN (dblN a)) ^^^ dblN a) ^^^ ((dblN (dblN (dblN b)) ^^^ dblN (dblN b)) ^^^ dblN b)
  rw [d8_add ha hb, d4_add ha hb, dbl_add ha hb]; ac_rfl
theorem coef : ∀ p : Fin 256, (((x14 (x2 p.1) ^^^ x11 p.1) ^^^ x13 p.1) ^^^ x9 (x3 p.1) = p.1) ∧ (((x14 (x3 p.1) ^^^ x11 (x2 p.1)) ^^^ x13 p.1) ^^^ x9 p.1 = 0) ∧ (((x14 p.1 ^^^ x11 (x3 p.1)) ^^^ x13 (x2 p.1)) ^^^ x9 p.1 = 0) ∧ (((x14 p.1 ^^^ x11 p.1) ^^^ x13 (x3 p.1)) ^^^ x9 (x2 p.1) = 0) := by decide +kernel
theorem coef2 : ∀ p : Fin 256, (((x2 (x14 p.1) ^^^ x3 (x9 p.1)) ^^^ x13 p.1) ^^^ x11 p.1 = p.1) ∧ (((x2 (x11 p.1) ^^^ x3 (x14 p.1)) ^^^ x9 p.1) ^^^ x13 p.1 = 0) ∧ (((x2 (x13 p.1) ^^^ x3 (x11 p.1)) ^^^ x14 p.1) ^^^ x9 p.1 = 0) ∧ (((x2 (x9 p.1) ^^^ x3 (x13 p.1)) ^^^ x11 p.1) ^^^ x14 p.1 = 0) := by decide +kernel
end Go.Proofs.YtgmfiljjogdccaaDoor
