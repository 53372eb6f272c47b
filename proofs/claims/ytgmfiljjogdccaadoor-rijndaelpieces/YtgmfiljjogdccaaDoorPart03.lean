import Derived.Test.YtgmfiljjogdccaaDoorPart00
import Derived.Test.YtgmfiljjogdccaaDoorPart02
import Derived.Test.YtgmfiljjogdccaaDoorPart01
import Derived.Laws.CopyOwn
namespace Go.Proofs.YtgmfiljjogdccaaDoor
open Go.RowKit
set_option linter.unusedVariables false
theorem xor_self_right (a k : Nat) : Nat.xor (Nat.xor a k) k = a := by
  show (a ^^^ k) ^^^ k = a
  rw [Nat.xor_assoc, Nat.xor_self, Nat.xor_zero]
theorem addK_addK (K : Nat → Nat) (r : Nat) (s : W4) : addK K r (addK K r s) = s := by
  unfold addK
  simp only [xor_self_right]
/-- The bytes of a word of bytes. -/
theorem bt_wd {a b c d : Nat} (ha : a < 256) (hb : b < 256) (hc : c < 256) (hd : d < 256) : bt0 (wd a b c d) = a ∧ bt1 (wd a b c d) = b ∧ bt2 (wd a b c d) = c ∧ bt3 (wd a b c d) = d := by
  unfold bt0 bt1 bt2 bt3 wd
  omega
theorem U_S {b : Nat} (h : b < 256) : UB (SB b) = b := (UB_SB ⟨b, h⟩).1
theorem S_U {b : Nat} (h : b < 256) : SB (UB b) = b := (UB_SB ⟨b, h⟩).2
theorem bt_last (a b c d : Nat) : bt0 (lastw a b c d) = SB (bt0 a) ∧ bt1 (lastw a b c d) = SB (bt1 b) ∧ bt2 (lastw a b c d) = SB (bt2 c) ∧ bt3 (lastw a b c d) = SB (bt3 d) := bt_wd (SB_lt _) (SB_lt _) (SB_lt _) (SB_lt _)
theorem bt_undo (a b c d : Nat) : bt0 (undow a b c d) = UB (bt0 a) ∧ bt1 (undow a b c d) = UB (bt1 b) ∧ bt2 (undow a b c d) = UB (bt2 c) ∧ bt3 (undow a b c d) = UB (bt3 d) := bt_wd (UB_lt _) (UB_lt _) (UB_lt _) (UB_lt _)
theorem undo_last (s : W4) (hs : s.ok) : undoS (lastS s) = s := by
  obtain ⟨a, b, c, d⟩ := s
  obtain ⟨ha, hb, hc, hd⟩ := hs
  simp only at ha hb hc hd
  simp only [undoS, lastS, undow, (bt_last _ _ _ _).1, (bt_last _ _ _ _).2.1, (bt_last _ _ _ _).2.2.1, (bt_last _ _ _ _).2.2.2, U_S (bt0_lt _), U_S (bt1_lt _), U_S (bt2_lt _), U_S (bt3_lt _), wd_bt ha, wd_bt hb, wd_bt hc, wd_bt hd]
theorem last_undo (s : W4) (hs : s.ok) : lastS (undoS s) = s := by
  obtain ⟨a, b, c, d⟩ := s
  obtain ⟨ha, hb, hc, hd⟩ := hs
  simp only at ha hb hc hd
  simp only [undoS, lastS, lastw, (bt_undo _ _ _ _).1, (bt_undo _ _ _ _).2.1, (bt_undo _ _ _ _).2.2.1, (bt_undo _ _ _ _).2.2.2, S_U (bt0_lt _), S_U (bt1_lt _), S_U (bt2_lt _), S_U (bt3_lt _), wd_bt ha, wd_bt hb, wd_bt hc, wd_bt hd]
/-- A column multiplied. -/
def mcw (x : Nat) : Nat :=
  wd (Nat.xor (Nat.xor (Nat.xor (x2 (bt0 x)) (x3 (bt1 x))) (bt2 x)) (bt3 x)) (Nat.xor (Nat.xor (Nat.xor (bt0 x) (x2 (bt1 x))) (x3 (bt2 x))) (bt3 x))
    (Nat.xor (Nat.xor (Nat.xor (bt0 x) (bt1 x)) (x2 (bt2 x))) (x3 (bt3 x))) (Nat.xor (Nat.xor (Nat.xor (x3 (bt0 x)) (bt1 x)) (bt2 x)) (x2 (bt3 x)))
def mcS (s : W4) : W4 := ⟨mcw s.a, mcw s.b, mcw s.c, mcw s.d⟩
theorem xl2 {b : Nat} (h : b < 256) : x2 b < 256 := (x_lt ⟨b, h⟩).1
theorem xl3 {b : Nat} (h : b < 256) : x3 b < 256 := (x_lt ⟨b, h⟩).2.1
theorem xl9 {b : Nat} (h : b < 256) : x9 b < 256 := (x_lt ⟨b, h⟩).2.2.1
theorem xl11 {b : Nat} (h : b < 256) : x11 b < 256 := (x_lt ⟨b, h⟩).2.2.2.1
theorem xl13 {b : Nat} (h : b < 256) : x13 b < 256 := (x_lt ⟨b, h⟩).2.2.2.2.1
theorem xl14 {b : Nat} (h : b < 256) : x14 b < 256 := (x_lt ⟨b, h⟩).2.2.2.2.2
theorem mix_mc (a b c d : Nat) : mixw a b c d = mcw (lastw a b c d) := by
  unfold mixw mixc mcw
  obtain ⟨e0, e1, e2, e3⟩ := bt_last a b c d
  rw [e0, e1, e2, e3]
  have p := SB_lt (bt0 a)
  have q := SB_lt (bt1 b)
  have r := SB_lt (bt2 c)
  have t := SB_lt (bt3 d)
  unfold MX M8 M16 M24
  rw [wd_xor _ _ _ _ _ _ _ _ p p (xl3 p) (xl2 q) q q, wd_xor _ _ _ _ _ _ _ _ (xor_lt8 p (xl2 q)) (xor_lt8 p q) (xor_lt8 (xl3 p) q) (xl3 r) (xl2 r) r, wd_xor _ _ _ _ _ _ _ _ (xor_lt8 (xor_lt8 p (xl2 q)) (xl3 r)) (xor_lt8 (xor_lt8 p q) (xl2 r)) (xor_lt8 (xor_lt8 (xl3 p) q) r) t (xl3 t) (xl2 t)]
/-- Doubling is additive. -/
def addB (a b : Nat) : Bool := Nat.beq (dblN (Nat.xor a b)) (Nat.xor (dblN a) (dblN b))
set_option maxRecDepth 100000 in
theorem addB_all : allB (fun a => allB (addB a) 256) 256 = true := by decide +kernel
theorem dbl_add {a b : Nat} (ha : a < 256) (hb : b < 256) : dblN (a ^^^ b) = dblN a ^^^ dblN b := Nat.eq_of_beq_eq_true (allB_at (allB_at addB_all ha) hb)
theorem x2_add {a b : Nat} (ha : a < 256) (hb : b < 256) : x2 (a ^^^ b) = x2 a ^^^ x2 b := dbl_add ha hb
theorem d_lt {a : Nat} (h : a < 256) : dblN a < 256 := dbl_lt ⟨a, h⟩
theorem x3_add {a b : Nat} (ha : a < 256) (hb : b < 256) : x3 (a ^^^ b) = x3 a ^^^ x3 b := by
  show dblN (a ^^^ b) ^^^ (a ^^^ b) = (dblN a ^^^ a) ^^^ (dblN b ^^^ b)
  rw [dbl_add ha hb]; ac_rfl
theorem d4_add {a b : Nat} (ha : a < 256) (hb : b < 256) : dblN (dblN (a ^^^ b)) = dblN (dblN a) ^^^ dblN (dblN b) := by rw [dbl_add ha hb, dbl_add (d_lt ha) (d_lt hb)]
theorem d8_add {a b : Nat} (ha : a < 256) (hb : b < 256) : dblN (dblN (dblN (a ^^^ b))) = dblN (dblN (dblN a)) ^^^ dblN (dblN (dblN b)) := by rw [d4_add ha hb, dbl_add (d_lt (d_lt ha)) (d_lt (d_lt hb))]
theorem x9_add {a b : Nat} (ha : a < 256) (hb : b < 256) : x9 (a ^^^ b) = x9 a ^^^ x9 b := by
  show dblN (dblN (dblN (a ^^^ b))) ^^^ (a ^^^ b) = (dblN (dblN (dblN a)) ^^^ a) ^^^ (dblN (dblN (dblN b)) ^^^ b)
  rw [d8_add ha hb]; ac_rfl
theorem x11_add {a b : Nat} (ha : a < 256) (hb : b < 256) : x11 (a ^^^ b) = x11 a ^^^ x11 b := by
  show (dblN (dblN (dblN (a ^^^ b))) ^^^ dblN (a ^^^ b)) ^^^ (a ^^^ b) = ((dblN (dblN (dblN a)) ^^^ dblN a) ^^^ a) ^^^ ((dblN (dblN (dblN b)) ^^^ dblN b) ^^^ b)
  rw [d8_add ha hb, dbl_add ha hb]; ac_rfl
theorem x13_add {a b : Nat} (ha : a < 256) (hb : b < 256) : x13 (a ^^^ b) = x13 a ^^^ x13 b := by
  show (dblN (dblN (dblN (a ^^^ b))) ^^^ dblN (dblN (a ^^^ b))) ^^^ (a ^^^ b) = ((dblN (dblN (dblN a)) ^^^ dblN (dblN a)) ^^^ a) ^^^ ((dblN (dblN (dblN b)) ^^^ dblN (dblN b)) ^^^ b)
  rw [d8_add ha hb, d4_add ha hb]; ac_rfl
theorem x14_add {a b : Nat} (ha : a < 256) (hb : b < 256) : x14 (a ^^^ b) = x14 a ^^^ x14 b := by
  show (dblN (dblN (dblN (a ^^^ b))) ^^^ dblN (dblN (a ^^^ b))) ^^^ dblN (a ^^^ b) = ((dblN (dblN (dblN a)) ^^^ dblN (dblN a)) ^^^ dblN a) ^^^ ((dblN (dblN (dblN b)) ^^^ dblN (dblN b)) ^^^ dblN b)
  rw [d8_add ha hb, d4_add ha hb, dbl_add ha hb]; ac_rfl
theorem coef : ∀ p : Fin 256, (((x14 (x2 p.1) ^^^ x11 p.1) ^^^ x13 p.1) ^^^ x9 (x3 p.1) = p.1) ∧ (((x14 (x3 p.1) ^^^ x11 (x2 p.1)) ^^^ x13 p.1) ^^^ x9 p.1 = 0) ∧ (((x14 p.1 ^^^ x11 (x3 p.1)) ^^^ x13 (x2 p.1)) ^^^ x9 p.1 = 0) ∧ (((x14 p.1 ^^^ x11 p.1) ^^^ x13 (x3 p.1)) ^^^ x9 (x2 p.1) = 0) := by decide +kernel
theorem coef2 : ∀ p : Fin 256, (((x2 (x14 p.1) ^^^ x3 (x9 p.1)) ^^^ x13 p.1) ^^^ x11 p.1 = p.1) ∧ (((x2 (x11 p.1) ^^^ x3 (x14 p.1)) ^^^ x9 p.1) ^^^ x13 p.1 = 0) ∧ (((x2 (x13 p.1) ^^^ x3 (x11 p.1)) ^^^ x14 p.1) ^^^ x9 p.1 = 0) ∧ (((x2 (x9 p.1) ^^^ x3 (x13 p.1)) ^^^ x11 p.1) ^^^ x14 p.1 = 0) := by decide +kernel
end Go.Proofs.YtgmfiljjogdccaaDoor
namespace Go.Proofs.YtgmfiljjogdccaaDoor
/-- Steps r down to 1, of whatever kind. -/
def iterF (f : Nat → W4 → W4) : Nat → W4 → W4
  | 0, s => s
  | r + 1, s => iterF f r (f (r + 1) s)
theorem iterF_succ (f : Nat → W4 → W4) (r : Nat) (s : W4) : iterF f (r + 1) s = iterF f r (f (r + 1) s) := rfl
theorem iterF_zero (f : Nat → W4 → W4) (s : W4) : iterF f 0 s = s := rfl
def stepD (K : Nat → Nat) (r : Nat) (s : W4) : W4 := unmS (addK K r (undoS s))
def itD (K : Nat → Nat) : Nat → W4 → W4 := iterF (stepD K)
theorem itD_succ (K : Nat → Nat) (r : Nat) (s : W4) : itD K (r + 1) s = itD K r (stepD K (r + 1) s) := iterF_succ (stepD K) r s
theorem itD_zero (K : Nat → Nat) (s : W4) : itD K 0 s = s := iterF_zero (stepD K) s
/-- Decryption, as it is walked. -/
def dcW (nr : Nat) (K : Nat → Nat) (s : W4) : W4 := addK K 0 (undoS (itD K (nr - 1) (addK K nr s)))
theorem dcW_ok {K : Nat → Nat} (hK : ∀ i, K i < 4294967296) (nr : Nat) (s : W4) : (dcW nr K s).ok := addK_ok hK _ (undoS_ok _)
theorem iterE_succ (K : Nat → Nat) (r : Nat) (s : W4) : iterE K (r + 1) s = addK K (r + 1) (mixS (iterE K r s)) := rfl
theorem iterE_zero (K : Nat → Nat) (s : W4) : iterE K 0 s = s := rfl
end Go.Proofs.YtgmfiljjogdccaaDoor
namespace Go.Proofs.YtgmfiljjogdccaaDoor
open Go.RowKit
set_option linter.unusedVariables false
theorem unm_wd (p q r t : Nat) (hp : p < 256) (hq : q < 256) (hr : r < 256) (ht : t < 256) : unmc p q r t =
    wd (((x14 p ^^^ x11 q) ^^^ x13 r) ^^^ x9 t) (((x9 p ^^^ x14 q) ^^^ x11 r) ^^^ x13 t) (((x13 p ^^^ x9 q) ^^^ x14 r) ^^^ x11 t) (((x11 p ^^^ x13 q) ^^^ x9 r) ^^^ x14 t) := by
  unfold unmc UX U8 U16 U24
  rw [wd_xor _ _ _ _ _ _ _ _ (xl9 hp) (xl13 hp) (xl11 hp) (xl14 hq) (xl9 hq) (xl13 hq), wd_xor _ _ _ _ _ _ _ _ (xor_lt8 (xl9 hp) (xl14 hq)) (xor_lt8 (xl13 hp) (xl9 hq)) (xor_lt8 (xl11 hp) (xl13 hq)) (xl11 hr) (xl14 hr) (xl9 hr),
    wd_xor _ _ _ _ _ _ _ _ (xor_lt8 (xor_lt8 (xl9 hp) (xl14 hq)) (xl11 hr)) (xor_lt8 (xor_lt8 (xl13 hp) (xl9 hq)) (xl14 hr)) (xor_lt8 (xor_lt8 (xl11 hp) (xl13 hq)) (xl9 hr)) (xl13 ht) (xl11 ht) (xl14 ht)]
  exact rfl
theorem x2_add4 {a b c d : Nat} (ha : a < 256) (hb : b < 256) (hc : c < 256) (hd : d < 256) : x2 (((a ^^^ b) ^^^ c) ^^^ d) = ((x2 a ^^^ x2 b) ^^^ x2 c) ^^^ x2 d := by
  have h1 : a ^^^ b < 256 := xor_lt8 ha hb
  have h2 : (a ^^^ b) ^^^ c < 256 := xor_lt8 h1 hc
  rw [x2_add h2 hd, x2_add h1 hc, x2_add ha hb]
theorem x3_add4 {a b c d : Nat} (ha : a < 256) (hb : b < 256) (hc : c < 256) (hd : d < 256) : x3 (((a ^^^ b) ^^^ c) ^^^ d) = ((x3 a ^^^ x3 b) ^^^ x3 c) ^^^ x3 d := by
  have h1 : a ^^^ b < 256 := xor_lt8 ha hb
  have h2 : (a ^^^ b) ^^^ c < 256 := xor_lt8 h1 hc
  rw [x3_add h2 hd, x3_add h1 hc, x3_add ha hb]
theorem x9_add4 {a b c d : Nat} (ha : a < 256) (hb : b < 256) (hc : c < 256) (hd : d < 256) : x9 (((a ^^^ b) ^^^ c) ^^^ d) = ((x9 a ^^^ x9 b) ^^^ x9 c) ^^^ x9 d := by
  have h1 : a ^^^ b < 256 := xor_lt8 ha hb
  have h2 : (a ^^^ b) ^^^ c < 256 := xor_lt8 h1 hc
  rw [x9_add h2 hd, x9_add h1 hc, x9_add ha hb]
theorem x11_add4 {a b c d : Nat} (ha : a < 256) (hb : b < 256) (hc : c < 256) (hd : d < 256) : x11 (((a ^^^ b) ^^^ c) ^^^ d) = ((x11 a ^^^ x11 b) ^^^ x11 c) ^^^ x11 d := by
  have h1 : a ^^^ b < 256 := xor_lt8 ha hb
  have h2 : (a ^^^ b) ^^^ c < 256 := xor_lt8 h1 hc
  rw [x11_add h2 hd, x11_add h1 hc, x11_add ha hb]
theorem x13_add4 {a b c d : Nat} (ha : a < 256) (hb : b < 256) (hc : c < 256) (hd : d < 256) : x13 (((a ^^^ b) ^^^ c) ^^^ d) = ((x13 a ^^^ x13 b) ^^^ x13 c) ^^^ x13 d := by
  have h1 : a ^^^ b < 256 := xor_lt8 ha hb
  have h2 : (a ^^^ b) ^^^ c < 256 := xor_lt8 h1 hc
  rw [x13_add h2 hd, x13_add h1 hc, x13_add ha hb]
theorem x14_add4 {a b c d : Nat} (ha : a < 256) (hb : b < 256) (hc : c < 256) (hd : d < 256) : x14 (((a ^^^ b) ^^^ c) ^^^ d) = ((x14 a ^^^ x14 b) ^^^ x14 c) ^^^ x14 d := by
  have h1 : a ^^^ b < 256 := xor_lt8 ha hb
  have h2 : (a ^^^ b) ^^^ c < 256 := xor_lt8 h1 hc
  rw [x14_add h2 hd, x14_add h1 hc, x14_add ha hb]
theorem unm_mc0 (p q r t : Nat) (hp : p < 256) (hq : q < 256) (hr : r < 256) (ht : t < 256) : ((((x14 ((((x2 p) ^^^ (x3 q)) ^^^ r) ^^^ t)) ^^^ (x11 (((p ^^^ (x2 q)) ^^^ (x3 r)) ^^^ t))) ^^^ (x13 (((p ^^^ q) ^^^ (x2 r)) ^^^ (x3 t)))) ^^^ (x9 ((((x3 p) ^^^ q) ^^^ r) ^^^ (x2 t)))) = p := by
  rw [x14_add4 (xl2 hp) (xl3 hq) hr ht, x11_add4 hp (xl2 hq) (xl3 hr) ht, x13_add4 hp hq (xl2 hr) (xl3 ht), x9_add4 (xl3 hp) hq hr (xl2 ht)]
  have e : (((((((x14 (x2 p)) ^^^ (x14 (x3 q))) ^^^ (x14 r)) ^^^ (x14 t)) ^^^ ((((x11 p) ^^^ (x11 (x2 q))) ^^^ (x11 (x3 r))) ^^^ (x11 t))) ^^^ ((((x13 p) ^^^ (x13 q)) ^^^ (x13 (x2 r))) ^^^ (x13 (x3 t)))) ^^^ ((((x9 (x3 p)) ^^^ (x9 q)) ^^^ (x9 r)) ^^^ (x9 (x2 t)))) = (((((((x14 (x2 p)) ^^^ (x11 p)) ^^^ (x13 p)) ^^^ (x9 (x3 p))) ^^^ ((((x14 (x3 q)) ^^^ (x11 (x2 q))) ^^^ (x13 q)) ^^^ (x9 q))) ^^^ ((((x14 r) ^^^ (x11 (x3 r))) ^^^ (x13 (x2 r))) ^^^ (x9 r))) ^^^ ((((x14 t) ^^^ (x11 t)) ^^^ (x13 (x3 t))) ^^^ (x9 (x2 t)))) := by ac_rfl
  rw [e]
  have h0 : ((((x14 (x2 p)) ^^^ (x11 p)) ^^^ (x13 p)) ^^^ (x9 (x3 p))) = p := (by decide +kernel : ∀ p : Fin 256, ((((x14 (x2 p.1)) ^^^ (x11 p.1)) ^^^ (x13 p.1)) ^^^ (x9 (x3 p.1))) = p.1) ⟨p, hp⟩
  have h1 : ((((x14 (x3 q)) ^^^ (x11 (x2 q))) ^^^ (x13 q)) ^^^ (x9 q)) = 0 := (by decide +kernel : ∀ q : Fin 256, ((((x14 (x3 q.1)) ^^^ (x11 (x2 q.1))) ^^^ (x13 q.1)) ^^^ (x9 q.1)) = 0) ⟨q, hq⟩
  have h2 : ((((x14 r) ^^^ (x11 (x3 r))) ^^^ (x13 (x2 r))) ^^^ (x9 r)) = 0 := (by decide +kernel : ∀ r : Fin 256, ((((x14 r.1) ^^^ (x11 (x3 r.1))) ^^^ (x13 (x2 r.1))) ^^^ (x9 r.1)) = 0) ⟨r, hr⟩
  have h3 : ((((x14 t) ^^^ (x11 t)) ^^^ (x13 (x3 t))) ^^^ (x9 (x2 t))) = 0 := (by decide +kernel : ∀ t : Fin 256, ((((x14 t.1) ^^^ (x11 t.1)) ^^^ (x13 (x3 t.1))) ^^^ (x9 (x2 t.1))) = 0) ⟨t, ht⟩
  rw [h0, h1, h2, h3]
  simp
theorem unm_mc1 (p q r t : Nat) (hp : p < 256) (hq : q < 256) (hr : r < 256) (ht : t < 256) : ((((x9 ((((x2 p) ^^^ (x3 q)) ^^^ r) ^^^ t)) ^^^ (x14 (((p ^^^ (x2 q)) ^^^ (x3 r)) ^^^ t))) ^^^ (x11 (((p ^^^ q) ^^^ (x2 r)) ^^^ (x3 t)))) ^^^ (x13 ((((x3 p) ^^^ q) ^^^ r) ^^^ (x2 t)))) = q := by
  rw [x9_add4 (xl2 hp) (xl3 hq) hr ht, x14_add4 hp (xl2 hq) (xl3 hr) ht, x11_add4 hp hq (xl2 hr) (xl3 ht), x13_add4 (xl3 hp) hq hr (xl2 ht)]
  have e : (((((((x9 (x2 p)) ^^^ (x9 (x3 q))) ^^^ (x9 r)) ^^^ (x9 t)) ^^^ ((((x14 p) ^^^ (x14 (x2 q))) ^^^ (x14 (x3 r))) ^^^ (x14 t))) ^^^ ((((x11 p) ^^^ (x11 q)) ^^^ (x11 (x2 r))) ^^^ (x11 (x3 t)))) ^^^ ((((x13 (x3 p)) ^^^ (x13 q)) ^^^ (x13 r)) ^^^ (x13 (x2 t)))) = (((((((x9 (x2 p)) ^^^ (x14 p)) ^^^ (x11 p)) ^^^ (x13 (x3 p))) ^^^ ((((x9 (x3 q)) ^^^ (x14 (x2 q))) ^^^ (x11 q)) ^^^ (x13 q))) ^^^ ((((x9 r) ^^^ (x14 (x3 r))) ^^^ (x11 (x2 r))) ^^^ (x13 r))) ^^^ ((((x9 t) ^^^ (x14 t)) ^^^ (x11 (x3 t))) ^^^ (x13 (x2 t)))) := by ac_rfl
  rw [e]
  have h0 : ((((x9 (x2 p)) ^^^ (x14 p)) ^^^ (x11 p)) ^^^ (x13 (x3 p))) = 0 := (by decide +kernel : ∀ p : Fin 256, ((((x9 (x2 p.1)) ^^^ (x14 p.1)) ^^^ (x11 p.1)) ^^^ (x13 (x3 p.1))) = 0) ⟨p, hp⟩
  have h1 : ((((x9 (x3 q)) ^^^ (x14 (x2 q))) ^^^ (x11 q)) ^^^ (x13 q)) = q := (by decide +kernel : ∀ q : Fin 256, ((((x9 (x3 q.1)) ^^^ (x14 (x2 q.1))) ^^^ (x11 q.1)) ^^^ (x13 q.1)) = q.1) ⟨q, hq⟩
  have h2 : ((((x9 r) ^^^ (x14 (x3 r))) ^^^ (x11 (x2 r))) ^^^ (x13 r)) = 0 := (by decide +kernel : ∀ r : Fin 256, ((((x9 r.1) ^^^ (x14 (x3 r.1))) ^^^ (x11 (x2 r.1))) ^^^ (x13 r.1)) = 0) ⟨r, hr⟩
  have h3 : ((((x9 t) ^^^ (x14 t)) ^^^ (x11 (x3 t))) ^^^ (x13 (x2 t))) = 0 := (by decide +kernel : ∀ t : Fin 256, ((((x9 t.1) ^^^ (x14 t.1)) ^^^ (x11 (x3 t.1))) ^^^ (x13 (x2 t.1))) = 0) ⟨t, ht⟩
  rw [h0, h1, h2, h3]
  simp
theorem unm_mc2 (p q r t : Nat) (hp : p < 256) (hq : q < 256) (hr : r < 256) (ht : t < 256) : ((((x13 ((((x2 p) ^^^ (x3 q)) ^^^ r) ^^^ t)) ^^^ (x9 (((p ^^^ (x2 q)) ^^^ (x3 r)) ^^^ t))) ^^^ (x14 (((p ^^^ q) ^^^ (x2 r)) ^^^ (x3 t)))) ^^^ (x11 ((((x3 p) ^^^ q) ^^^ r) ^^^ (x2 t)))) = r := by
  rw [x13_add4 (xl2 hp) (xl3 hq) hr ht, x9_add4 hp (xl2 hq) (xl3 hr) ht, x14_add4 hp hq (xl2 hr) (xl3 ht), x11_add4 (xl3 hp) hq hr (xl2 ht)]
  have e : (((((((x13 (x2 p)) ^^^ (x13 (x3 q))) ^^^ (x13 r)) ^^^ (x13 t)) ^^^ ((((x9 p) ^^^ (x9 (x2 q))) ^^^ (x9 (x3 r))) ^^^ (x9 t))) ^^^ ((((x14 p) ^^^ (x14 q)) ^^^ (x14 (x2 r))) ^^^ (x14 (x3 t)))) ^^^ ((((x11 (x3 p)) ^^^ (x11 q)) ^^^ (x11 r)) ^^^ (x11 (x2 t)))) = (((((((x13 (x2 p)) ^^^ (x9 p)) ^^^ (x14 p)) ^^^ (x11 (x3 p))) ^^^ ((((x13 (x3 q)) ^^^ (x9 (x2 q))) ^^^ (x14 q)) ^^^ (x11 q))) ^^^ ((((x13 r) ^^^ (x9 (x3 r))) ^^^ (x14 (x2 r))) ^^^ (x11 r))) ^^^ ((((x13 t) ^^^ (x9 t)) ^^^ (x14 (x3 t))) ^^^ (x11 (x2 t)))) := by ac_rfl
  rw [e]
  have h0 : ((((x13 (x2 p)) ^^^ (x9 p)) ^^^ (x14 p)) ^^^ (x11 (x3 p))) = 0 := (by decide +kernel : ∀ p : Fin 256, ((((x13 (x2 p.1)) ^^^ (x9 p.1)) ^^^ (x14 p.1)) ^^^ (x11 (x3 p.1))) = 0) ⟨p, hp⟩
  have h1 : ((((x13 (x3 q)) ^^^ (x9 (x2 q))) ^^^ (x14 q)) ^^^ (x11 q)) = 0 := (by decide +kernel : ∀ q : Fin 256, ((((x13 (x3 q.1)) ^^^ (x9 (x2 q.1))) ^^^ (x14 q.1)) ^^^ (x11 q.1)) = 0) ⟨q, hq⟩
  have h2 : ((((x13 r) ^^^ (x9 (x3 r))) ^^^ (x14 (x2 r))) ^^^ (x11 r)) = r := (by decide +kernel : ∀ r : Fin 256, ((((x13 r.1) ^^^ (x9 (x3 r.1))) ^^^ (x14 (x2 r.1))) ^^^ (x11 r.1)) = r.1) ⟨r, hr⟩
  have h3 : ((((x13 t) ^^^ (x9 t)) ^^^ (x14 (x3 t))) ^^^ (x11 (x2 t))) = 0 := (by decide +kernel : ∀ t : Fin 256, ((((x13 t.1) ^^^ (x9 t.1)) ^^^ (x14 (x3 t.1))) ^^^ (x11 (x2 t.1))) = 0) ⟨t, ht⟩
  rw [h0, h1, h2, h3]
  simp
theorem unm_mc3 (p q r t : Nat) (hp : p < 256) (hq : q < 256) (hr : r < 256) (ht : t < 256) : ((((x11 ((((x2 p) ^^^ (x3 q)) ^^^ r) ^^^ t)) ^^^ (x13 (((p ^^^ (x2 q)) ^^^ (x3 r)) ^^^ t))) ^^^ (x9 (((p ^^^ q) ^^^ (x2 r)) ^^^ (x3 t)))) ^^^ (x14 ((((x3 p) ^^^ q) ^^^ r) ^^^ (x2 t)))) = t := by
  rw [x11_add4 (xl2 hp) (xl3 hq) hr ht, x13_add4 hp (xl2 hq) (xl3 hr) ht, x9_add4 hp hq (xl2 hr) (xl3 ht), x14_add4 (xl3 hp) hq hr (xl2 ht)]
  have e : (((((((x11 (x2 p)) ^^^ (x11 (x3 q))) ^^^ (x11 r)) ^^^ (x11 t)) ^^^ ((((x13 p) ^^^ (x13 (x2 q))) ^^^ (x13 (x3 r))) ^^^ (x13 t))) ^^^ ((((x9 p) ^^^ (x9 q)) ^^^ (x9 (x2 r))) ^^^ (x9 (x3 t)))) ^^^ ((((x14 (x3 p)) ^^^ (x14 q)) ^^^ (x14 r)) ^^^ (x14 (x2 t)))) = (((((((x11 (x2 p)) ^^^ (x13 p)) ^^^ (x9 p)) ^^^ (x14 (x3 p))) ^^^ ((((x11 (x3 q)) ^^^ (x13 (x2 q))) ^^^ (x9 q)) ^^^ (x14 q))) ^^^ ((((x11 r) ^^^ (x13 (x3 r))) ^^^ (x9 (x2 r))) ^^^ (x14 r))) ^^^ ((((x11 t) ^^^ (x13 t)) ^^^ (x9 (x3 t))) ^^^ (x14 (x2 t)))) := by ac_rfl
  rw [e]
  have h0 : ((((x11 (x2 p)) ^^^ (x13 p)) ^^^ (x9 p)) ^^^ (x14 (x3 p))) = 0 := (by decide +kernel : ∀ p : Fin 256, ((((x11 (x2 p.1)) ^^^ (x13 p.1)) ^^^ (x9 p.1)) ^^^ (x14 (x3 p.1))) = 0) ⟨p, hp⟩
  have h1 : ((((x11 (x3 q)) ^^^ (x13 (x2 q))) ^^^ (x9 q)) ^^^ (x14 q)) = 0 := (by decide +kernel : ∀ q : Fin 256, ((((x11 (x3 q.1)) ^^^ (x13 (x2 q.1))) ^^^ (x9 q.1)) ^^^ (x14 q.1)) = 0) ⟨q, hq⟩
  have h2 : ((((x11 r) ^^^ (x13 (x3 r))) ^^^ (x9 (x2 r))) ^^^ (x14 r)) = 0 := (by decide +kernel : ∀ r : Fin 256, ((((x11 r.1) ^^^ (x13 (x3 r.1))) ^^^ (x9 (x2 r.1))) ^^^ (x14 r.1)) = 0) ⟨r, hr⟩
  have h3 : ((((x11 t) ^^^ (x13 t)) ^^^ (x9 (x3 t))) ^^^ (x14 (x2 t))) = t := (by decide +kernel : ∀ t : Fin 256, ((((x11 t.1) ^^^ (x13 t.1)) ^^^ (x9 (x3 t.1))) ^^^ (x14 (x2 t.1))) = t.1) ⟨t, ht⟩
  rw [h0, h1, h2, h3]
  simp
theorem mc_unm0 (p q r t : Nat) (hp : p < 256) (hq : q < 256) (hr : r < 256) (ht : t < 256) : ((((x2 ((((x14 p) ^^^ (x11 q)) ^^^ (x13 r)) ^^^ (x9 t))) ^^^ (x3 ((((x9 p) ^^^ (x14 q)) ^^^ (x11 r)) ^^^ (x13 t)))) ^^^ ((((x13 p) ^^^ (x9 q)) ^^^ (x14 r)) ^^^ (x11 t))) ^^^ ((((x11 p) ^^^ (x13 q)) ^^^ (x9 r)) ^^^ (x14 t))) = p := by
  rw [x2_add4 (xl14 hp) (xl11 hq) (xl13 hr) (xl9 ht), x3_add4 (xl9 hp) (xl14 hq) (xl11 hr) (xl13 ht)]
  have e : (((((((x2 (x14 p)) ^^^ (x2 (x11 q))) ^^^ (x2 (x13 r))) ^^^ (x2 (x9 t))) ^^^ ((((x3 (x9 p)) ^^^ (x3 (x14 q))) ^^^ (x3 (x11 r))) ^^^ (x3 (x13 t)))) ^^^ ((((x13 p) ^^^ (x9 q)) ^^^ (x14 r)) ^^^ (x11 t))) ^^^ ((((x11 p) ^^^ (x13 q)) ^^^ (x9 r)) ^^^ (x14 t))) = (((((((x2 (x14 p)) ^^^ (x3 (x9 p))) ^^^ (x13 p)) ^^^ (x11 p)) ^^^ ((((x2 (x11 q)) ^^^ (x3 (x14 q))) ^^^ (x9 q)) ^^^ (x13 q))) ^^^ ((((x2 (x13 r)) ^^^ (x3 (x11 r))) ^^^ (x14 r)) ^^^ (x9 r))) ^^^ ((((x2 (x9 t)) ^^^ (x3 (x13 t))) ^^^ (x11 t)) ^^^ (x14 t))) := by ac_rfl
  rw [e]
  have h0 : ((((x2 (x14 p)) ^^^ (x3 (x9 p))) ^^^ (x13 p)) ^^^ (x11 p)) = p := (by decide +kernel : ∀ p : Fin 256, ((((x2 (x14 p.1)) ^^^ (x3 (x9 p.1))) ^^^ (x13 p.1)) ^^^ (x11 p.1)) = p.1) ⟨p, hp⟩
  have h1 : ((((x2 (x11 q)) ^^^ (x3 (x14 q))) ^^^ (x9 q)) ^^^ (x13 q)) = 0 := (by decide +kernel : ∀ q : Fin 256, ((((x2 (x11 q.1)) ^^^ (x3 (x14 q.1))) ^^^ (x9 q.1)) ^^^ (x13 q.1)) = 0) ⟨q, hq⟩
  have h2 : ((((x2 (x13 r)) ^^^ (x3 (x11 r))) ^^^ (x14 r)) ^^^ (x9 r)) = 0 := (by decide +kernel : ∀ r : Fin 256, ((((x2 (x13 r.1)) ^^^ (x3 (x11 r.1))) ^^^ (x14 r.1)) ^^^ (x9 r.1)) = 0) ⟨r, hr⟩
  have h3 : ((((x2 (x9 t)) ^^^ (x3 (x13 t))) ^^^ (x11 t)) ^^^ (x14 t)) = 0 := (by decide +kernel : ∀ t : Fin 256, ((((x2 (x9 t.1)) ^^^ (x3 (x13 t.1))) ^^^ (x11 t.1)) ^^^ (x14 t.1)) = 0) ⟨t, ht⟩
  rw [h0, h1, h2, h3]
  simp
theorem mc_unm1 (p q r t : Nat) (hp : p < 256) (hq : q < 256) (hr : r < 256) (ht : t < 256) : (((((((x14 p) ^^^ (x11 q)) ^^^ (x13 r)) ^^^ (x9 t)) ^^^ (x2 ((((x9 p) ^^^ (x14 q)) ^^^ (x11 r)) ^^^ (x13 t)))) ^^^ (x3 ((((x13 p) ^^^ (x9 q)) ^^^ (x14 r)) ^^^ (x11 t)))) ^^^ ((((x11 p) ^^^ (x13 q)) ^^^ (x9 r)) ^^^ (x14 t))) = q := by
  rw [x2_add4 (xl9 hp) (xl14 hq) (xl11 hr) (xl13 ht), x3_add4 (xl13 hp) (xl9 hq) (xl14 hr) (xl11 ht)]
  have e : (((((((x14 p) ^^^ (x11 q)) ^^^ (x13 r)) ^^^ (x9 t)) ^^^ ((((x2 (x9 p)) ^^^ (x2 (x14 q))) ^^^ (x2 (x11 r))) ^^^ (x2 (x13 t)))) ^^^ ((((x3 (x13 p)) ^^^ (x3 (x9 q))) ^^^ (x3 (x14 r))) ^^^ (x3 (x11 t)))) ^^^ ((((x11 p) ^^^ (x13 q)) ^^^ (x9 r)) ^^^ (x14 t))) = (((((((x14 p) ^^^ (x2 (x9 p))) ^^^ (x3 (x13 p))) ^^^ (x11 p)) ^^^ ((((x11 q) ^^^ (x2 (x14 q))) ^^^ (x3 (x9 q))) ^^^ (x13 q))) ^^^ ((((x13 r) ^^^ (x2 (x11 r))) ^^^ (x3 (x14 r))) ^^^ (x9 r))) ^^^ ((((x9 t) ^^^ (x2 (x13 t))) ^^^ (x3 (x11 t))) ^^^ (x14 t))) := by ac_rfl
  rw [e]
  have h0 : ((((x14 p) ^^^ (x2 (x9 p))) ^^^ (x3 (x13 p))) ^^^ (x11 p)) = 0 := (by decide +kernel : ∀ p : Fin 256, ((((x14 p.1) ^^^ (x2 (x9 p.1))) ^^^ (x3 (x13 p.1))) ^^^ (x11 p.1)) = 0) ⟨p, hp⟩
  have h1 : ((((x11 q) ^^^ (x2 (x14 q))) ^^^ (x3 (x9 q))) ^^^ (x13 q)) = q := (by decide +kernel : ∀ q : Fin 256, ((((x11 q.1) ^^^ (x2 (x14 q.1))) ^^^ (x3 (x9 q.1))) ^^^ (x13 q.1)) = q.1) ⟨q, hq⟩
  have h2 : ((((x13 r) ^^^ (x2 (x11 r))) ^^^ (x3 (x14 r))) ^^^ (x9 r)) = 0 := (by decide +kernel : ∀ r : Fin 256, ((((x13 r.1) ^^^ (x2 (x11 r.1))) ^^^ (x3 (x14 r.1))) ^^^ (x9 r.1)) = 0) ⟨r, hr⟩
  have h3 : ((((x9 t) ^^^ (x2 (x13 t))) ^^^ (x3 (x11 t))) ^^^ (x14 t)) = 0 := (by decide +kernel : ∀ t : Fin 256, ((((x9 t.1) ^^^ (x2 (x13 t.1))) ^^^ (x3 (x11 t.1))) ^^^ (x14 t.1)) = 0) ⟨t, ht⟩
  rw [h0, h1, h2, h3]
  simp
theorem mc_unm2 (p q r t : Nat) (hp : p < 256) (hq : q < 256) (hr : r < 256) (ht : t < 256) : (((((((x14 p) ^^^ (x11 q)) ^^^ (x13 r)) ^^^ (x9 t)) ^^^ ((((x9 p) ^^^ (x14 q)) ^^^ (x11 r)) ^^^ (x13 t))) ^^^ (x2 ((((x13 p) ^^^ (x9 q)) ^^^ (x14 r)) ^^^ (x11 t)))) ^^^ (x3 ((((x11 p) ^^^ (x13 q)) ^^^ (x9 r)) ^^^ (x14 t)))) = r := by
  rw [x2_add4 (xl13 hp) (xl9 hq) (xl14 hr) (xl11 ht), x3_add4 (xl11 hp) (xl13 hq) (xl9 hr) (xl14 ht)]
  have e : (((((((x14 p) ^^^ (x11 q)) ^^^ (x13 r)) ^^^ (x9 t)) ^^^ ((((x9 p) ^^^ (x14 q)) ^^^ (x11 r)) ^^^ (x13 t))) ^^^ ((((x2 (x13 p)) ^^^ (x2 (x9 q))) ^^^ (x2 (x14 r))) ^^^ (x2 (x11 t)))) ^^^ ((((x3 (x11 p)) ^^^ (x3 (x13 q))) ^^^ (x3 (x9 r))) ^^^ (x3 (x14 t)))) = (((((((x14 p) ^^^ (x9 p)) ^^^ (x2 (x13 p))) ^^^ (x3 (x11 p))) ^^^ ((((x11 q) ^^^ (x14 q)) ^^^ (x2 (x9 q))) ^^^ (x3 (x13 q)))) ^^^ ((((x13 r) ^^^ (x11 r)) ^^^ (x2 (x14 r))) ^^^ (x3 (x9 r)))) ^^^ ((((x9 t) ^^^ (x13 t)) ^^^ (x2 (x11 t))) ^^^ (x3 (x14 t)))) := by ac_rfl
  rw [e]
  have h0 : ((((x14 p) ^^^ (x9 p)) ^^^ (x2 (x13 p))) ^^^ (x3 (x11 p))) = 0 := (by decide +kernel : ∀ p : Fin 256, ((((x14 p.1) ^^^ (x9 p.1)) ^^^ (x2 (x13 p.1))) ^^^ (x3 (x11 p.1))) = 0) ⟨p, hp⟩
  have h1 : ((((x11 q) ^^^ (x14 q)) ^^^ (x2 (x9 q))) ^^^ (x3 (x13 q))) = 0 := (by decide +kernel : ∀ q : Fin 256, ((((x11 q.1) ^^^ (x14 q.1)) ^^^ (x2 (x9 q.1))) ^^^ (x3 (x13 q.1))) = 0) ⟨q, hq⟩
  have h2 : ((((x13 r) ^^^ (x11 r)) ^^^ (x2 (x14 r))) ^^^ (x3 (x9 r))) = r := (by decide +kernel : ∀ r : Fin 256, ((((x13 r.1) ^^^ (x11 r.1)) ^^^ (x2 (x14 r.1))) ^^^ (x3 (x9 r.1))) = r.1) ⟨r, hr⟩
  have h3 : ((((x9 t) ^^^ (x13 t)) ^^^ (x2 (x11 t))) ^^^ (x3 (x14 t))) = 0 := (by decide +kernel : ∀ t : Fin 256, ((((x9 t.1) ^^^ (x13 t.1)) ^^^ (x2 (x11 t.1))) ^^^ (x3 (x14 t.1))) = 0) ⟨t, ht⟩
  rw [h0, h1, h2, h3]
  simp
theorem mc_unm3 (p q r t : Nat) (hp : p < 256) (hq : q < 256) (hr : r < 256) (ht : t < 256) : ((((x3 ((((x14 p) ^^^ (x11 q)) ^^^ (x13 r)) ^^^ (x9 t))) ^^^ ((((x9 p) ^^^ (x14 q)) ^^^ (x11 r)) ^^^ (x13 t))) ^^^ ((((x13 p) ^^^ (x9 q)) ^^^ (x14 r)) ^^^ (x11 t))) ^^^ (x2 ((((x11 p) ^^^ (x13 q)) ^^^ (x9 r)) ^^^ (x14 t)))) = t := by
  rw [x3_add4 (xl14 hp) (xl11 hq) (xl13 hr) (xl9 ht), x2_add4 (xl11 hp) (xl13 hq) (xl9 hr) (xl14 ht)]
  have e : (((((((x3 (x14 p)) ^^^ (x3 (x11 q))) ^^^ (x3 (x13 r))) ^^^ (x3 (x9 t))) ^^^ ((((x9 p) ^^^ (x14 q)) ^^^ (x11 r)) ^^^ (x13 t))) ^^^ ((((x13 p) ^^^ (x9 q)) ^^^ (x14 r)) ^^^ (x11 t))) ^^^ ((((x2 (x11 p)) ^^^ (x2 (x13 q))) ^^^ (x2 (x9 r))) ^^^ (x2 (x14 t)))) = (((((((x3 (x14 p)) ^^^ (x9 p)) ^^^ (x13 p)) ^^^ (x2 (x11 p))) ^^^ ((((x3 (x11 q)) ^^^ (x14 q)) ^^^ (x9 q)) ^^^ (x2 (x13 q)))) ^^^ ((((x3 (x13 r)) ^^^ (x11 r)) ^^^ (x14 r)) ^^^ (x2 (x9 r)))) ^^^ ((((x3 (x9 t)) ^^^ (x13 t)) ^^^ (x11 t)) ^^^ (x2 (x14 t)))) := by ac_rfl
  rw [e]
  have h0 : ((((x3 (x14 p)) ^^^ (x9 p)) ^^^ (x13 p)) ^^^ (x2 (x11 p))) = 0 := (by decide +kernel : ∀ p : Fin 256, ((((x3 (x14 p.1)) ^^^ (x9 p.1)) ^^^ (x13 p.1)) ^^^ (x2 (x11 p.1))) = 0) ⟨p, hp⟩
  have h1 : ((((x3 (x11 q)) ^^^ (x14 q)) ^^^ (x9 q)) ^^^ (x2 (x13 q))) = 0 := (by decide +kernel : ∀ q : Fin 256, ((((x3 (x11 q.1)) ^^^ (x14 q.1)) ^^^ (x9 q.1)) ^^^ (x2 (x13 q.1))) = 0) ⟨q, hq⟩
  have h2 : ((((x3 (x13 r)) ^^^ (x11 r)) ^^^ (x14 r)) ^^^ (x2 (x9 r))) = 0 := (by decide +kernel : ∀ r : Fin 256, ((((x3 (x13 r.1)) ^^^ (x11 r.1)) ^^^ (x14 r.1)) ^^^ (x2 (x9 r.1))) = 0) ⟨r, hr⟩
  have h3 : ((((x3 (x9 t)) ^^^ (x13 t)) ^^^ (x11 t)) ^^^ (x2 (x14 t))) = t := (by decide +kernel : ∀ t : Fin 256, ((((x3 (x9 t.1)) ^^^ (x13 t.1)) ^^^ (x11 t.1)) ^^^ (x2 (x14 t.1))) = t.1) ⟨t, ht⟩
  rw [h0, h1, h2, h3]
  simp
theorem mcw_bt (x : Nat) : bt0 (mcw x) = ((x2 (bt0 x) ^^^ x3 (bt1 x)) ^^^ bt2 x) ^^^ bt3 x ∧ bt1 (mcw x) = ((bt0 x ^^^ x2 (bt1 x)) ^^^ x3 (bt2 x)) ^^^ bt3 x ∧ bt2 (mcw x) = ((bt0 x ^^^ bt1 x) ^^^ x2 (bt2 x)) ^^^ x3 (bt3 x) ∧ bt3 (mcw x) = ((x3 (bt0 x) ^^^ bt1 x) ^^^ bt2 x) ^^^ x2 (bt3 x) :=
  bt_wd (xor_lt8 (xor_lt8 (xor_lt8 (xl2 (bt0_lt x)) (xl3 (bt1_lt x))) (bt2_lt x)) (bt3_lt x)) (xor_lt8 (xor_lt8 (xor_lt8 (bt0_lt x) (xl2 (bt1_lt x))) (xl3 (bt2_lt x))) (bt3_lt x)) (xor_lt8 (xor_lt8 (xor_lt8 (bt0_lt x) (bt1_lt x)) (xl2 (bt2_lt x))) (xl3 (bt3_lt x))) (xor_lt8 (xor_lt8 (xor_lt8 (xl3 (bt0_lt x)) (bt1_lt x)) (bt2_lt x)) (xl2 (bt3_lt x)))
theorem unmw_bt (x : Nat) : bt0 (unmw x) = ((x14 (bt0 x) ^^^ x11 (bt1 x)) ^^^ x13 (bt2 x)) ^^^ x9 (bt3 x) ∧ bt1 (unmw x) = ((x9 (bt0 x) ^^^ x14 (bt1 x)) ^^^ x11 (bt2 x)) ^^^ x13 (bt3 x) ∧ bt2 (unmw x) = ((x13 (bt0 x) ^^^ x9 (bt1 x)) ^^^ x14 (bt2 x)) ^^^ x11 (bt3 x) ∧ bt3 (unmw x) = ((x11 (bt0 x) ^^^ x13 (bt1 x)) ^^^ x9 (bt2 x)) ^^^ x14 (bt3 x) := by
  unfold unmw
  rw [unm_wd _ _ _ _ (bt0_lt x) (bt1_lt x) (bt2_lt x) (bt3_lt x)]
  have a := bt0_lt x
  have b := bt1_lt x
  have c := bt2_lt x
  have d := bt3_lt x
  exact bt_wd (xor_lt8 (xor_lt8 (xor_lt8 (xl14 a) (xl11 b)) (xl13 c)) (xl9 d)) (xor_lt8 (xor_lt8 (xor_lt8 (xl9 a) (xl14 b)) (xl11 c)) (xl13 d)) (xor_lt8 (xor_lt8 (xor_lt8 (xl13 a) (xl9 b)) (xl14 c)) (xl11 d)) (xor_lt8 (xor_lt8 (xor_lt8 (xl11 a) (xl13 b)) (xl9 c)) (xl14 d))
theorem unmw_mcw {x : Nat} (h : x < 4294967296) : unmw (mcw x) = x := by
  obtain ⟨e0, e1, e2, e3⟩ := mcw_bt x
  have a := bt0_lt x
  have b := bt1_lt x
  have c := bt2_lt x
  have d := bt3_lt x
  have hm := wd_bt (unmw_lt (mcw x))
  obtain ⟨u0, u1, u2, u3⟩ := unmw_bt (mcw x)
  rw [u0, u1, u2, u3, e0, e1, e2, e3, unm_mc0 _ _ _ _ a b c d, unm_mc1 _ _ _ _ a b c d, unm_mc2 _ _ _ _ a b c d, unm_mc3 _ _ _ _ a b c d, wd_bt h] at hm
  exact hm.symm
theorem mcw_lt (x : Nat) : mcw x < 4294967296 := by
  have a := bt0_lt x
  have b := bt1_lt x
  have c := bt2_lt x
  have d := bt3_lt x
  exact wd_lt (xor_lt8 (xor_lt8 (xor_lt8 (xl2 a) (xl3 b)) c) d) (xor_lt8 (xor_lt8 (xor_lt8 a (xl2 b)) (xl3 c)) d) (xor_lt8 (xor_lt8 (xor_lt8 a b) (xl2 c)) (xl3 d)) (xor_lt8 (xor_lt8 (xor_lt8 (xl3 a) b) c) (xl2 d))
theorem mcw_unmw {x : Nat} (h : x < 4294967296) : mcw (unmw x) = x := by
  obtain ⟨e0, e1, e2, e3⟩ := unmw_bt x
  have a := bt0_lt x
  have b := bt1_lt x
  have c := bt2_lt x
  have d := bt3_lt x
  have hm := wd_bt (mcw_lt (unmw x))
  obtain ⟨u0, u1, u2, u3⟩ := mcw_bt (unmw x)
  rw [u0, u1, u2, u3, e0, e1, e2, e3, mc_unm0 _ _ _ _ a b c d, mc_unm1 _ _ _ _ a b c d, mc_unm2 _ _ _ _ a b c d, mc_unm3 _ _ _ _ a b c d, wd_bt h] at hm
  exact hm.symm
theorem mixS_mc (s : W4) : mixS s = mcS (lastS s) := by unfold mixS mcS lastS; simp only [mix_mc]
theorem unmS_mixS (s : W4) : unmS (mixS s) = lastS s := by
  rw [mixS_mc]
  unfold unmS mcS
  obtain ⟨h1, h2, h3, h4⟩ := lastS_ok s
  simp only [unmw_mcw h1, unmw_mcw h2, unmw_mcw h3, unmw_mcw h4]
theorem mcS_unmS (s : W4) (hs : s.ok) : mcS (unmS s) = s := by
  unfold unmS mcS
  obtain ⟨h1, h2, h3, h4⟩ := hs
  simp only [mcw_unmw h1, mcw_unmw h2, mcw_unmw h3, mcw_unmw h4]
theorem itD_iterE {K : Nat → Nat} (hK : ∀ i, K i < 4294967296) (s : W4) (hs : s.ok) (r : Nat) : itD K r (lastS (iterE K r s)) = lastS s := by
  induction r with
  | zero => rw [itD_zero, iterE_zero]
  | succ r ih => rw [itD_succ, stepD, undo_last _ (iterE_ok hK hs _), iterE_succ, addK_addK, unmS_mixS, ih]
/-- Decryption undoes encryption. -/
theorem dec_enc {K : Nat → Nat} (hK : ∀ i, K i < 4294967296) (nr : Nat) (s : W4) (hs : s.ok) : dcW nr K (encW nr K s) = s := by
  rw [dcW, encW, addK_addK, itD_iterE hK _ (addK_ok hK 0 hs), undo_last _ (addK_ok hK 0 hs), addK_addK]
theorem iterE_itD {K : Nat → Nat} (hK : ∀ i, K i < 4294967296) (r : Nat) : ∀ t : W4, t.ok → lastS (iterE K r (undoS (itD K r t))) = t := by
  induction r with
  | zero => intro t ht; rw [itD_zero, iterE_zero]; exact last_undo t ht
  | succ r ih =>
    intro t ht
    have h := ih (stepD K (r + 1) t) (unmS_ok _)
    rw [itD_succ]
    generalize undoS (itD K r (stepD K (r + 1) t)) = y at h ⊢
    rw [iterE_succ, mixS_mc, h, stepD, mcS_unmS _ (addK_ok hK _ (undoS_ok t)), addK_addK, last_undo t ht]
/-- Encryption undoes decryption. -/
theorem enc_dec {K : Nat → Nat} (hK : ∀ i, K i < 4294967296) (nr : Nat) (s : W4) (hs : s.ok) : encW nr K (dcW nr K s) = s := by
  rw [dcW, encW, addK_addK, iterE_itD hK _ _ (addK_ok hK nr hs), addK_addK]
end Go.Proofs.YtgmfiljjogdccaaDoor
namespace Go.Proofs.YtgmfiljjogdccaaDoor
open Go.RowKit
set_option linter.unusedVariables false
/-- A block's halves. -/
def W4.hi (s : W4) : Nat := s.a * 4294967296 + s.b
def W4.lo (s : W4) : Nat := s.c * 4294967296 + s.d
theorem W4.hi_lt {s : W4} (h : s.ok) : s.hi < 18446744073709551616 := by unfold W4.ok at h; unfold W4.hi; omega
theorem W4.lo_lt {s : W4} (h : s.ok) : s.lo < 18446744073709551616 := by unfold W4.ok at h; unfold W4.lo; omega
theorem joinW_hi (h l : Nat) : (joinW h l).hi = h := by unfold joinW W4.hi; simp only; omega
theorem joinW_lo (h l : Nat) : (joinW h l).lo = l := by unfold joinW W4.lo; simp only; omega
theorem joinW_halves {s : W4} (h : s.ok) : joinW s.hi s.lo = s := by
  obtain ⟨a, b, c, d⟩ := s
  unfold W4.ok at h
  unfold joinW W4.hi W4.lo
  simp only at h ⊢
  congr 1 <;> omega
/-- A row of halves with one of them set. -/
def setR (R : Nat → Nat) (i v : Nat) : Nat → Nat := fun j => if j = i then v else R j
theorem setR_same (R : Nat → Nat) (i v : Nat) : setR R i v i = v := by simp [setR]
theorem setR_other (R : Nat → Nat) {i j : Nat} (v : Nat) (h : j ≠ i) : setR R i v j = R j := by simp [setR, h]
theorem setR_setR (R : Nat → Nat) (i v u : Nat) : setR (setR R i v) i u = setR R i u := by funext j; simp only [setR]; split <;> rfl
theorem setR_self (R : Nat → Nat) (i : Nat) : setR R i (R i) = R := by funext j; simp only [setR]; split <;> simp_all
/-- One step of wrapping: the number of the step from 0 on. -/
def wrStep (nr : Nat) (K : Nat → Nat) (n : Nat) (k : Nat) (x : Nat × (Nat → Nat)) : Nat × (Nat → Nat) :=
  ((encW nr K (joinW x.1 (x.2 (k % n)))).hi ^^^ (k + 1), setR x.2 (k % n) (encW nr K (joinW x.1 (x.2 (k % n)))).lo)
def unStep (nr : Nat) (K : Nat → Nat) (n : Nat) (k : Nat) (x : Nat × (Nat → Nat)) : Nat × (Nat → Nat) :=
  ((dcW nr K (joinW (x.1 ^^^ (k + 1)) (x.2 (k % n)))).hi, setR x.2 (k % n) (dcW nr K (joinW (x.1 ^^^ (k + 1)) (x.2 (k % n)))).lo)
/-- Steps 0, 1, .., k-1. -/
def fore {α : Type} (f : Nat → α → α) (x : α) : Nat → α
  | 0 => x
  | k + 1 => f k (fore f x k)
/-- Steps k-1, k-2, .., 0. -/
def aft {α : Type} (f : Nat → α → α) : Nat → α → α
  | 0, x => x
  | k + 1, x => aft f k (f k x)
theorem fore_succ {α : Type} (f : Nat → α → α) (x : α) (k : Nat) : fore f x (k + 1) = f k (fore f x k) := rfl
theorem aft_succ {α : Type} (f : Nat → α → α) (x : α) (k : Nat) : aft f (k + 1) x = aft f k (f k x) := rfl
theorem fore_zero {α : Type} (f : Nat → α → α) (x : α) : fore f x 0 = x := rfl
theorem aft_zero {α : Type} (f : Nat → α → α) (x : α) : aft f 0 x = x := rfl
theorem fore_all {α : Type} (f : Nat → α → α) (P : α → Prop) (B : Nat) (h : ∀ k x, k < B → P x → P (f k x)) (x : α) (hx : P x) (k : Nat) : k ≤ B → P (fore f x k) := by
  induction k with
  | zero => intro _; exact hx
  | succ k ih => intro hk; rw [fore_succ]; exact h k _ (by omega) (ih (by omega))
theorem aft_fore {α : Type} (f g : Nat → α → α) (P : α → Prop) (B : Nat) (h : ∀ k x, k < B → P x → P (f k x)) (hu : ∀ k x, k < B → P x → g k (f k x) = x) (x : α) (hx : P x) (k : Nat) : k ≤ B → aft g k (fore f x k) = x := by
  induction k with
  | zero => intro _; rfl
  | succ k ih => intro hk; rw [aft_succ, fore_succ, hu k _ (by omega) (fore_all f P B h x hx k (by omega))]; exact ih (by omega)
theorem fore_aft {α : Type} (f g : Nat → α → α) (P : α → Prop) (B : Nat) (h : ∀ k x, k < B → P x → P (g k x)) (hu : ∀ k x, k < B → P x → f k (g k x) = x) (k : Nat) : k ≤ B → ∀ x, P x → fore f (aft g k x) k = x := by
  induction k with
  | zero => intro _ _ _; rfl
  | succ k ih => intro hk x hx; rw [fore_succ, aft_succ, ih (by omega) _ (h k x (by omega) hx)]; exact hu k x (by omega) hx
def Rok (x : Nat × (Nat → Nat)) : Prop := x.1 < 18446744073709551616 ∧ ∀ i, x.2 i < 18446744073709551616
theorem setR_lt {R : Nat → Nat} {i v B : Nat} (h : ∀ j, R j < B) (hv : v < B) (j : Nat) : setR R i v j < B := by
  unfold setR; split <;> simp_all
theorem xor_back (a b : Nat) : (a ^^^ b) ^^^ b = a := by rw [Nat.xor_assoc, Nat.xor_self, Nat.xor_zero]
theorem wrStep_ok {K : Nat → Nat} (hK : ∀ i, K i < 4294967296) (nr n k : Nat) (hk : k < 4294967296) {x : Nat × (Nat → Nat)} (h : Rok x) : Rok (wrStep nr K n k x) := by
  have ho := encW_ok hK nr (joinW x.1 (x.2 (k % n)))
  exact ⟨Nat.xor_lt_two_pow (n := 64) (W4.hi_lt ho) (by omega), setR_lt h.2 (W4.lo_lt ho)⟩
theorem unStep_ok {K : Nat → Nat} (hK : ∀ i, K i < 4294967296) (nr n k : Nat) {x : Nat × (Nat → Nat)} (h : Rok x) : Rok (unStep nr K n k x) := by
  have ho := dcW_ok hK nr (joinW (x.1 ^^^ (k + 1)) (x.2 (k % n)))
  exact ⟨W4.hi_lt ho, setR_lt h.2 (W4.lo_lt ho)⟩
theorem unStep_wrStep {K : Nat → Nat} (hK : ∀ i, K i < 4294967296) (nr n k : Nat) {x : Nat × (Nat → Nat)} (h : Rok x) : unStep nr K n k (wrStep nr K n k x) = x := by
  obtain ⟨a, R⟩ := x
  have hj : (joinW a (R (k % n))).ok := joinW_ok h.1 (h.2 _)
  have ho := encW_ok hK nr (joinW a (R (k % n)))
  unfold unStep wrStep
  simp only [setR_same, xor_back, setR_setR, joinW_halves ho, dec_enc hK nr _ hj, joinW_hi, joinW_lo, setR_self]
theorem wrStep_unStep {K : Nat → Nat} (hK : ∀ i, K i < 4294967296) (nr n k : Nat) (hk : k < 4294967296) {x : Nat × (Nat → Nat)} (h : Rok x) : wrStep nr K n k (unStep nr K n k x) = x := by
  obtain ⟨a, R⟩ := x
  have hj : (joinW (a ^^^ (k + 1)) (R (k % n))).ok := joinW_ok (Nat.xor_lt_two_pow (n := 64) h.1 (by omega)) (h.2 _)
  have ho := dcW_ok hK nr (joinW (a ^^^ (k + 1)) (R (k % n)))
  unfold unStep wrStep
  simp only [setR_same, setR_setR, joinW_halves ho, enc_dec hK nr _ hj, joinW_hi, joinW_lo, setR_self, xor_back]
/-- Unwrapping undoes wrapping. -/
theorem un_wr {K : Nat → Nat} (hK : ∀ i, K i < 4294967296) (nr n : Nat) (x : Nat × (Nat → Nat)) (h : Rok x) (k : Nat) (hk : k ≤ 4294967296) : aft (unStep nr K n) k (fore (wrStep nr K n) x k) = x :=
  aft_fore (wrStep nr K n) (unStep nr K n) Rok 4294967296 (fun k x hk hx => wrStep_ok hK nr n k hk hx) (fun k x _ hx => unStep_wrStep hK nr n k hx) x h k hk
theorem wr_un {K : Nat → Nat} (hK : ∀ i, K i < 4294967296) (nr n : Nat) (x : Nat × (Nat → Nat)) (h : Rok x) (k : Nat) (hk : k ≤ 4294967296) : fore (wrStep nr K n) (aft (unStep nr K n) k x) k = x :=
  fore_aft (wrStep nr K n) (unStep nr K n) Rok 4294967296 (fun k x _ hx => unStep_ok hK nr n k hx) (fun k x hk hx => wrStep_unStep hK nr n k hk hx) k hk x h
theorem wr_ok {K : Nat → Nat} (hK : ∀ i, K i < 4294967296) (nr n : Nat) (x : Nat × (Nat → Nat)) (h : Rok x) (k : Nat) (hk : k ≤ 4294967296) : Rok (fore (wrStep nr K n) x k) :=
  fore_all (wrStep nr K n) Rok 4294967296 (fun k x hk hx => wrStep_ok hK nr n k hk hx) x h k hk
end Go.Proofs.YtgmfiljjogdccaaDoor
namespace Go.Proofs.YtgmfiljjogdccaaDoor
open Go.RowKit
set_option linter.unusedVariables false
/-- The halves R of n times 8 bytes at s from off on. -/
structure Halves (w : World) (s off n : Nat) (R : Nat → Nat) : Prop where
  here : s < w.heap.size
  room : w.there s 0 (off + 8 * n)
  cell : ∀ i k, i < n → k < 8 → w.cell? ⟨s, off + 8 * i + k, none⟩ = some (.int .u8 (byteK (R i) k : Nat))
theorem Halves.below {B : Nat} {w w' : World} {s off n : Nat} {R : Nat → Nat} (h : Halves w s off n R) (hb : Below B w w') (hs : s < B) : Halves w' s off n R :=
  ⟨Nat.lt_of_lt_of_le h.here hb.size, there_below h.room hb hs, fun i k hi hk => (hb.cell hs).trans (h.cell i k hi hk)⟩
theorem there_mid {w : World} {s a b : Nat} (h : w.there s 0 b) (o n : Nat) (hl : o + n ≤ b) : w.there s o n := fun j hj => by
  have := h (o + j) (by omega)
  rwa [Nat.zero_add] at this
theorem Halves.put {w w' : World} {s off n : Nat} {R : Nat → Nat} (h : Halves w s off n R) (i v : Nat) (hi : i < n) (ht : Touch w w' s (off + 8 * i) 8) (hc : ∀ k, k < 8 → w'.cell? ⟨s, off + 8 * i + k, none⟩ = some (.int .u8 (byteK v k : Nat))) : Halves w' s off n (setR R i v) := by
  refine ⟨Nat.lt_of_lt_of_le h.here ht.size, ht.there _ _ h.room, fun j k hj hk => ?_⟩
  by_cases e : j = i
  · subst e; rw [setR_same]; exact hc k hk
  · rw [setR_other _ _ e, ht.cell _ (by omega)]; exact h.cell j k hj hk
theorem byteK_numK (f : Nat → Nat) (hf : ∀ i, f i < 256) (k : Nat) (hk : k < 8) : byteK (numK f 8) k = f k := by
  have h0 := hf 0; have h1 := hf 1; have h2 := hf 2; have h3 := hf 3; have h4 := hf 4; have h5 := hf 5; have h6 := hf 6; have h7 := hf 7
  have e : numK f 8 = (((((((f 0 * 256 + f 1) * 256 + f 2) * 256 + f 3) * 256 + f 4) * 256 + f 5) * 256 + f 6) * 256 + f 7) := by simp only [numK]; omega
  rw [e]
  match k, hk with
  | 0, _ => show _ / 72057594037927936 % 256 = _; omega
  | 1, _ => show _ / 281474976710656 % 256 = _; omega
  | 2, _ => show _ / 1099511627776 % 256 = _; omega
  | 3, _ => show _ / 4294967296 % 256 = _; omega
  | 4, _ => show _ / 16777216 % 256 = _; omega
  | 5, _ => show _ / 65536 % 256 = _; omega
  | 6, _ => show _ / 256 % 256 = _; omega
  | 7, _ => show _ / 1 % 256 = _; omega
theorem numK_byteK (v : Nat) (hv : v < 18446744073709551616) : numK (byteK v) 8 = v := by
  have e0 : byteK v 0 = v / 72057594037927936 % 256 := rfl
  have e1 : byteK v 1 = v / 281474976710656 % 256 := rfl
  have e2 : byteK v 2 = v / 1099511627776 % 256 := rfl
  have e3 : byteK v 3 = v / 4294967296 % 256 := rfl
  have e4 : byteK v 4 = v / 16777216 % 256 := rfl
  have e5 : byteK v 5 = v / 65536 % 256 := rfl
  have e6 : byteK v 6 = v / 256 % 256 := rfl
  have e7 : byteK v 7 = v / 1 % 256 := rfl
  simp only [numK]
  omega
/-- The halves of n times 8 bytes that f tells. -/
def halfs (f : Nat → Nat) : Nat → Nat := fun i => numK (fun k => f (8 * i + k)) 8
theorem halfs_lt {f : Nat → Nat} (hf : ∀ i, f i < 256) (i : Nat) : halfs f i < 18446744073709551616 := numK_lt (fun k => hf _) 8
/-- A row of q cells behind a copy of the bytes f from off on. -/
theorem halves_copied {w : World} {s off n : Nat} {t : TypeId} (cur : Array Value) (f : Nat → Nat) (hf : ∀ i, f i < 256) (cs : List Value) (hcs : cs = (List.range (8 * n)).map fun i => .int .u8 (f i : Nat)) (hz : cur.size = off + 8 * n) (hg : w.heap[s]? = some (.cells cur t (0, 0))) :
    Halves (w.setRow s (cur.toList.take off ++ (cs ++ cur.toList.drop (off + cs.length))).toArray) s off n (halfs f) := by
  have hg' := setRow_heap w s cur (cur.toList.take off ++ (cs ++ cur.toList.drop (off + cs.length))).toArray t (0, 0) hg
  have hl : cs.length = 8 * n := by rw [hcs]; simp
  refine ⟨(Array.getElem?_eq_some_iff.1 hg').1, fun j hj => ⟨?_, frozen_of_row _ _ _ _ _ hg'⟩, fun i k hi hk => ?_⟩
  · rw [cell_of_row _ _ _ _ _ _ hg']
    simp
    omega
  · rw [cell_of_row _ _ _ _ _ _ hg', List.getElem?_toArray, List.getElem?_append_right (by simp; omega), List.getElem?_append_left (by simp; omega)]
    rw [show off + 8 * i + k - (cur.toList.take off).length = 8 * i + k by simp; omega, hcs]
    rw [List.getElem?_map, List.getElem?_range (by omega)]
    show some _ = _
    rw [halfs, byteK_numK _ (fun k => hf _) k hk]
end Go.Proofs.YtgmfiljjogdccaaDoor
namespace Go.Proofs.YtgmfiljjogdccaaDoor
open Go.RowKit
set_option linter.unusedVariables false
theorem xor64 (a b : Nat) (ha : a < 18446744073709551616) (hb : b < 18446744073709551616) : bits .xor .u64 (a : Int) b = (Nat.xor a b : Nat) := bits_xor .u64 64 (by decide) wraps_u64 a b ha hb
/-- What wrapping makes of the bytes f: A and the halves. -/
def wrapF (nr : Nat) (K : Nat → Nat) (n : Nat) (f : Nat → Nat) (k : Nat) : Nat × (Nat → Nat) := fore (wrStep nr K n) (12008468691120727718, halfs f) k
theorem wrapF_succ (nr : Nat) (K : Nat → Nat) (n : Nat) (f : Nat → Nat) (k : Nat) : wrapF nr K n f (k + 1) = wrStep nr K n k (wrapF nr K n f k) := fore_succ _ _ _
set_option maxHeartbeats 1600000 in
set_option maxRecDepth 100000 in
theorem wrap_ok (g o nr n b po cap : Nat) (K : Nat → Nat) (f : Nat → Nat) (w : World) (hC : Ciph w g o nr K) (hn : 1 ≤ n) (hm : n ≤ 1048576) (hcap : 8 * n ≤ cap) (hb : b < w.heap.size) (hp : ∀ i, i < 8 * n → w.cell? ⟨b, po + i, none⟩ = some (.int .u8 (f i : Nat))) (hf : ∀ i, f i < 256) :
    Calls Tryd.prog 50 #[.pointer (some ⟨g, o, none⟩), .slice (some ⟨b, po, none⟩) (8 * n) cap] w fun e w' => e = .returned (.slice (some ⟨w.heap.size, 0, none⟩) (8 + 8 * n) (8 + 8 * n)) ∧ Halves w' w.heap.size 8 n (wrapF nr K n f (6 * n)).2 ∧ (∀ k, k < 8 → w'.cell? ⟨w.heap.size, k, none⟩ = some (.int .u8 (byteK (wrapF nr K n f (6 * n)).1 k : Nat))) ∧ Below w.heap.size w w' := by
  obtain ⟨i0, hi, hz0, hz1, hz2⟩ := info_parts Tryd.info5
  have HP : Hid (∀ i, i < 8 * n → w.cell? ⟨b, po + i, none⟩ = some (.int .u8 (f i : Nat))) := hp
  have HF : Hid (∀ i, f i < 256) := hf
  have HC : Hid (Ciph w g o nr K) := hC
  have HR : Hid (Rok (12008468691120727718, halfs f)) := ⟨show 12008468691120727718 < 18446744073709551616 by decide, halfs_lt hf⟩
  have HBB : Hid (b < w.heap.size) := hb
  obtain ⟨m, HM⟩ : ∃ m, Hid (m = 8 * n) := ⟨_, rfl⟩
  have hmd : ((m : Nat) : Int) / 8 = (n : Nat) := by have := HM.out; omega
  rw [← HM.out] at hcap ⊢
  have hml : m ≤ 8388608 := by have := HM.out; omega
  obtain ⟨q, HQ⟩ : ∃ q, Hid (q = 8 + m) := ⟨_, rfl⟩
  have hqi : (8 : Int) + (m : Nat) = (q : Nat) := by have := HQ.out; omega
  have hql : q ≤ 8388616 := by have := HQ.out; omega
  have hq8 : 8 ≤ q := by omega
  have hqm : q - 8 = m := by have := HQ.out; omega
  rw [← HQ.out]
  obtain ⟨CS, HCS⟩ : ∃ cs, Hid (cs = (List.range (8 * n)).map fun i => Value.int .u8 (f i : Nat)) := ⟨_, rfl⟩
  have HCL : Hid (CS.length = m) := by show _ = _; rw [HCS.out, HM.out]; simp
  clear hp hf hC hb
  go_enter Tryd.func50, Tryd.ntmps50
  go_wp2_with (first
    | (at_make; go_must (refine wpList_make_full _ rfl _ _ 22 rfl w.heap.size 5 i0 (.int .u8 0) 1 Tryd.underlying22 hi hz0 hz1 .i64 .i64 (q : Nat) (q : Nat) q rfl rfl rfl rfl ?_ ?_ ?_ ?_)))
  · rw [hz2]; omega
  · unfold maxLen; omega
  · exact Nat.le_refl _
  intro w1 hown hgr
  have HB1 : Hid (Below w.heap.size w w1) := (Below.refl _ _).grown hgr (Nat.le_refl _) (by intro k hk; cases hk)
  obtain ⟨cur, HG, HZ⟩ : ∃ cur : Array Value, Hid (w1.heap[w.heap.size]? = some (.cells cur 5 (0, 0))) ∧ Hid (cur.size = q) := by
    obtain ⟨_, ⟨h, _⟩ | ⟨g', c', cur, h, _, h2, _, _, h5, _⟩⟩ := hown
    · cases h
    · cases h; exact ⟨cur, h2, by show _ = _; omega⟩
  clear hown hgr
  obtain ⟨w2, HW2⟩ : ∃ w2, Hid (w2 = w1.setRow w.heap.size (cur.toList.take 8 ++ (CS ++ cur.toList.drop (8 + CS.length))).toArray) := ⟨_, rfl⟩
  have hcp : Sem.run Tryd.prog (Builtin.copy_ #[22, 22] 3 #[.slice (some ⟨w.heap.size, 8, none⟩) m m, .slice (some ⟨b, po, none⟩) m cap]) w1 = .ok (.int .i64 (m : Nat)) w2 := by
    have h := run_copy_row (P := Tryd.prog) w1 22 22 3 5 w.heap.size 8 m m ⟨b, po, none⟩ m cap cur 5 CS Tryd.underlying22 (by rw [hi]; simp [hz1]) HG.out (by rw [HCL.out]; exact (Nat.min_self m).symm) (by
      intro j v hv
      rw [HCS.out] at hv
      simp at hv
      obtain ⟨j', h1, rfl⟩ := hv
      obtain ⟨h2, h3⟩ := List.getElem?_eq_some_iff.1 h1
      simp at h2 h3
      subst h3
      rw [Addr.add_mid, HB1.out.cell HBB.out]
      exact HP.out j h2) (by rw [HCL.out, HZ.out]; have := HQ.out; omega) (by
      intro v hv
      rw [HCS.out] at hv
      simp at hv
      obtain ⟨j, _, rfl⟩ := hv
      rfl)
    rw [HW2.out]
    rw [HCL.out] at h ⊢
    rw [List.append_assoc] at h
    exact h
  have HH : Hid (Halves w2 w.heap.size 8 n (halfs f)) := by show Halves _ _ _ _ _; rw [HW2.out]; exact halves_copied cur f HF.out CS HCS.out (by rw [HZ.out, HQ.out, HM.out]) HG.out
  have HB2 : Hid (Below w.heap.size w w2) := by show Below _ _ _; rw [HW2.out]; exact below_setRow HB1.out (Nat.le_refl _) _
  clear HG HZ HB1 HP HBB
  go_wp2
  go_loopw [7, 25] (fun a i wr => ∃ k A : Nat, k ≤ 6 * n ∧ i = .int .i64 k ∧ a = .int .u64 (A : Nat) ∧ Hid (A = (wrapF nr K n f k).1) ∧ Hid (Halves wr w.heap.size 8 n (wrapF nr K n f k).2) ∧ Hid (Below w.heap.size w wr)) (fun _ i _ => 6 * n - (intOf i).toNat)
  case atStart => exact ⟨0, 12008468691120727718, by omega, rfl, rfl, rfl, HH, HB2⟩
  case round =>
    obtain ⟨k, A, hk, rfl, rfl, HA, HH3, HB3⟩ := hrel
    clear HH HB2 hcp
    have HW : Hid (Rok (wrapF nr K n f k)) := fore_all (wrStep nr K n) Rok 4294967296 (fun k x hk hx => wrStep_ok HC.out.small nr n k hk hx) _ HR.out k (by omega)
    have HAl : Hid (A < 18446744073709551616) := by have := HW.out.1; rw [← HA.out] at this; exact this
    by_cases hlt : k < 6 * n
    · obtain ⟨i, HI⟩ : ∃ i, Hid (i = k % n) := ⟨_, rfl⟩
      have hil : i < n := by rw [HI.out]; exact Nat.mod_lt _ (by omega)
      have hmod : ((k : Nat) : Int) % ((n : Nat) : Int) = (i : Nat) := by rw [HI.out]; simp
      obtain ⟨j, HJ⟩ : ∃ j, Hid (j = 8 + 8 * i) := ⟨_, rfl⟩
      have hji : (8 : Int) + 8 * (i : Nat) = (j : Nat) := by have := HJ.out; omega
      have hjq : j + 8 ≤ q := by have h1 := HJ.out; have h2 := HQ.out; have h3 := HM.out; omega
      obtain ⟨r, HRr⟩ : ∃ r, Hid (r = (wrapF nr K n f k).2 i) := ⟨_, rfl⟩
      have HRl : Hid (r < 18446744073709551616) := by show _ < _; rw [HRr.out]; exact HW.out.2 i
      have KN : Hid (Calls Tryd.prog 73 #[.slice (some ⟨w.heap.size, j, none⟩) (q - j) (q - j)] wr fun e w' => e = .returned (.int .u64 (r : Nat)) ∧ w' = wr) := by
        have h := number_ok w.heap.size j (q - j) (q - j) (byteK r) wr (by omega) (Nat.le_refl _) (fun k hk => by rw [HJ.out, HRr.out]; exact HH3.out.cell i k hil hk) (byteK_lt r)
        rw [numK_byteK r HRl.out] at h
        exact h
      obtain ⟨S, HS⟩ : ∃ S, Hid (S = joinW A r) := ⟨_, rfl⟩
      obtain ⟨T, HT⟩ : ∃ T, Hid (T = encW nr K S) := ⟨_, rfl⟩
      have HSo : Hid S.ok := by show S.ok; rw [HS.out]; exact joinW_ok HAl.out HRl.out
      have HTo : Hid T.ok := by show T.ok; rw [HT.out]; exact encW_ok HC.out.small nr S
      have KJ : Hid (∀ u, Calls Tryd.prog 72 #[.int .u64 (A : Nat), .int .u64 (r : Nat)] u fun e u' => e = .returned S.blk ∧ Below u.heap.size u u') := fun u => by rw [HS.out]; exact join_ok A r HAl.out HRl.out u
      obtain ⟨hv, HHV⟩ : ∃ x, Hid (x = T.a * 4294967296 + T.b) := ⟨_, rfl⟩
      obtain ⟨lv, HLV⟩ : ∃ x, Hid (x = T.c * 4294967296 + T.d) := ⟨_, rfl⟩
      have KH : Hid (∀ u, Calls Tryd.prog 70 #[T.blk] u fun e u' => e = .returned (.tuple #[.int .u64 (hv : Nat), .int .u64 (lv : Nat)]) ∧ Below u.heap.size u u') := fun u => by rw [HHV.out, HLV.out]; exact halves_ok T HTo.out u
      have HHl : Hid (hv < 18446744073709551616) := by show _ < _; rw [HHV.out]; exact W4.hi_lt HTo.out
      have HLl : Hid (lv < 18446744073709551616) := by show _ < _; rw [HLV.out]; exact W4.lo_lt HTo.out
      obtain ⟨A', HA'⟩ : ∃ x, Hid (x = Nat.xor hv (k + 1)) := ⟨_, rfl⟩
      have hx : bits .xor .u64 ((hv : Nat) : Int) (((k : Nat) : Int) + 1) = (A' : Nat) := by rw [HA'.out]; exact xor64 hv (k + 1) HHl.out (by omega)
      have KE : Hid (∀ u, Below wr.heap.size wr u → Calls Tryd.prog 43 #[.pointer (some ⟨g, o, none⟩), S.blk] u fun e u' => e = .returned T.blk ∧ Below u.heap.size u u') := fun u hb => by
        rw [HT.out]
        exact enc_ok g o nr K S u ((HC.out.below HB3.out HC.out.here).below hb (Nat.lt_of_lt_of_le HC.out.here HB3.out.size)) HSo.out
      generalize hSb : S.blk = sb at KJ KE
      generalize hTb : T.blk = tb at KE KH
      have HSb : Hid (S.blk = sb) := hSb
      have HTb : Hid (T.blk = tb) := hTb
      clear hSb hTb
      go_wp2_with (first | (go_at_call 73; refine KN.out.mono ?_))
      rintro e1 w1' ⟨rfl, rfl⟩
      go_wp2_with (first | (go_at_call 72; refine (KJ.out _).mono ?_))
      rintro e2 u2 ⟨rfl, hb2⟩
      have HU2 : Hid (Below w1'.heap.size w1' u2) := hb2
      clear hb2
      go_wp2_with (first | (go_at_call 43; refine (KE.out _ HU2.out).mono ?_))
      rintro e3 u3 ⟨rfl, hb3⟩
      have HU3 : Hid (Below w1'.heap.size w1' u3) := HU2.out.trans (hb3.mono HU2.out.size)
      clear hb3 HU2
      go_wp2_with (first | (go_at_call 70; refine (KH.out _).mono ?_))
      rintro e4 u4 ⟨rfl, hb4⟩
      have HU4 : Hid (Below w1'.heap.size w1' u4) := HU3.out.trans (hb4.mono HU3.out.size)
      clear hb4 HU3
      have HH4 : Hid (Halves u4 w.heap.size 8 n (wrapF nr K n f k).2) := HH3.out.below HU4.out HH3.out.here
      have HB4 : Hid (Below w.heap.size w u4) := HB3.out.trans (HU4.out.mono HB3.out.size)
      have KP : Hid (Calls Tryd.prog 74 #[.slice (some ⟨w.heap.size, j, none⟩) (q - j) (q - j), .int .u64 (lv : Nat)] u4 fun e w' => e = .returned (.tuple #[]) ∧ Touch u4 w' w.heap.size j 8 ∧ ∀ k, k < 8 → w'.cell? ⟨w.heap.size, j + k, none⟩ = some (.int .u8 (byteK lv k : Nat))) :=
        put_ok w.heap.size j (q - j) (q - j) lv u4 (by omega) HLl.out (there_mid (a := 0) HH4.out.room j 8 (by have h1 := HJ.out; omega))
      go_wp2_with (first | (go_at_call 74; refine KP.out.mono ?_))
      rintro e5 u5 ⟨rfl, ht5, hc5⟩
      have HH5 : Hid (Halves u5 w.heap.size 8 n (wrapF nr K n f (k + 1)).2) := by
        have h := HH4.out.put i lv hil (by rw [← HJ.out]; exact ht5) (by rw [← HJ.out]; exact hc5)
        show Halves _ _ _ _ _
        rw [wrapF_succ]
        show Halves u5 w.heap.size 8 n (setR (wrapF nr K n f k).2 (k % n) (encW nr K (joinW (wrapF nr K n f k).1 ((wrapF nr K n f k).2 (k % n)))).lo)
        rw [← HI.out, ← HRr.out, ← HA.out, ← HS.out, ← HT.out]
        rw [HLV.out] at h
        exact h
      have HB5 : Hid (Below w.heap.size w u5) := HB4.out.trans (ht5.toBelow (Nat.le_refl _) HB4.out.size)
      have HA5 : Hid (A' = (wrapF nr K n f (k + 1)).1) := by
        show _ = _
        rw [wrapF_succ]
        show _ = (encW nr K (joinW (wrapF nr K n f k).1 ((wrapF nr K n f k).2 (k % n)))).hi ^^^ (k + 1)
        rw [← HI.out, ← HRr.out, ← HA.out, ← HS.out, ← HT.out, HA'.out, HHV.out]
        rfl
      clear ht5 hc5
      go_wp2
      go_roundw
      case rel => exact ⟨k + 1, A', by omega, by go_num, rfl, HA5, HH5, HB5⟩
      case measure => simp [intOf]; omega
    · obtain rfl : k = 6 * n := by omega
      have KP : Hid (Calls Tryd.prog 74 #[.slice (some ⟨w.heap.size, 0, none⟩) q q, .int .u64 (A : Nat)] wr fun e w' => e = .returned (.tuple #[]) ∧ Touch wr w' w.heap.size 0 8 ∧ ∀ k, k < 8 → w'.cell? ⟨w.heap.size, 0 + k, none⟩ = some (.int .u8 (byteK A k : Nat))) :=
        put_ok w.heap.size 0 q q A wr hq8 HAl.out (there_mid (a := 0) HH3.out.room 0 8 (by omega))
      go_wp2_with (first | (go_at_call 74; refine KP.out.mono ?_))
      rintro e5 u5 ⟨rfl, ht5, hc5⟩
      have HE : Hid (Halves u5 w.heap.size 8 n (wrapF nr K n f (6 * n)).2 ∧ (∀ k, k < 8 → u5.cell? ⟨w.heap.size, k, none⟩ = some (.int .u8 (byteK (wrapF nr K n f (6 * n)).1 k : Nat))) ∧ Below w.heap.size w u5) := by
        refine ⟨⟨Nat.lt_of_lt_of_le HH3.out.here ht5.size, ht5.there _ _ HH3.out.room, fun i k hi hk => ?_⟩, fun k hk => ?_, HB3.out.trans (ht5.toBelow (Nat.le_refl _) HB3.out.size)⟩
        · rw [ht5.cell _ (by omega)]; exact HH3.out.cell i k hi hk
        · have h := hc5 k hk
          rw [Nat.zero_add, HA.out] at h
          exact h
      clear ht5 hc5
      go_wp2
      go_ret
      exact ⟨rfl, HE.out⟩
end Go.Proofs.YtgmfiljjogdccaaDoor
namespace Go.Proofs.YtgmfiljjogdccaaDoor
open Go.RowKit
set_option linter.unusedVariables false
set_option linter.unusedSimpArgs false
set_option maxHeartbeats 6400000 in
set_option maxRecDepth 100000 in
theorem dec_r5 {Q : Exit → Act → World → Prop} (s1 s2 s3 s4 s7 s8 s9 s10 s11 s12 s13 s14 s15 s16 s17 s18 s19 s20 s21 s22 s23 s24 s25 s26 s27 s28 s29 s30 s31 s32 s33 s34 s35 s36 s37 s38 s39 s40 s41 s42 s43 s44 s45 s46 s47 s48 s49 s50 s51 s52 s53 s54 s55 s56 s57 s58 s59 s60 s61 s62 s63 s64 s65 s66 s67 s68 s69 s70 s71 s72 s73 s74 s75 s76 s77 s78 s79 s80 s81 s82 s83 s84 s85 s86 s87 s88 s89 s90 s91 s92 s93 s94 s95 s96 s97 s98 s99 s100 s101 s102 s103 s104 s105 s106 s107 s108 s109 s110 s111 s112 s113 s114 s115 s116 s117 s118 s119 s120 s121 s122 s123 s124 s125 s126 s127 s128 : Value) (g o A r1 x0 x1 x2 x3 m0 m1 m2 m3 n0 n1 n2 n3 : Nat) (wr : World)
    (k0 : Hid (∀ u, Below (A + 1) wr u → Calls Tryd.prog 68 #[.pointer (some ⟨g, o, none⟩), .int .u32 (x0 : Nat), .int .u32 (x3 : Nat), .int .u32 (x2 : Nat), .int .u32 (x1 : Nat)] u fun e u' => e = .returned (.int .u32 (m0 : Nat)) ∧ Below (A + 1) wr u'))
    (k1 : Hid (∀ u, Below (A + 1) wr u → Calls Tryd.prog 68 #[.pointer (some ⟨g, o, none⟩), .int .u32 (x1 : Nat), .int .u32 (x0 : Nat), .int .u32 (x3 : Nat), .int .u32 (x2 : Nat)] u fun e u' => e = .returned (.int .u32 (m1 : Nat)) ∧ Below (A + 1) wr u'))
    (k2 : Hid (∀ u, Below (A + 1) wr u → Calls Tryd.prog 68 #[.pointer (some ⟨g, o, none⟩), .int .u32 (x2 : Nat), .int .u32 (x1 : Nat), .int .u32 (x0 : Nat), .int .u32 (x3 : Nat)] u fun e u' => e = .returned (.int .u32 (m2 : Nat)) ∧ Below (A + 1) wr u'))
    (k3 : Hid (∀ u, Below (A + 1) wr u → Calls Tryd.prog 68 #[.pointer (some ⟨g, o, none⟩), .int .u32 (x3 : Nat), .int .u32 (x2 : Nat), .int .u32 (x1 : Nat), .int .u32 (x0 : Nat)] u fun e u' => e = .returned (.int .u32 (m3 : Nat)) ∧ Below (A + 1) wr u'))
    (ka : Hid (∀ u, Below (A + 1) wr u → Calls Tryd.prog 63 #[.pointer (some ⟨g, o, none⟩), .agg #[.int .u32 (m0 : Nat), .int .u32 (m1 : Nat), .int .u32 (m2 : Nat), .int .u32 (m3 : Nat)], .int .i64 (r1 : Nat)] u fun e u' => e = .returned (.agg #[.int .u32 (n0 : Nat), .int .u32 (n1 : Nat), .int .u32 (n2 : Nat), .int .u32 (n3 : Nat)]) ∧ Below (A + 1) wr u'))
    (g0 : Hid (∀ u, Below (A + 1) wr u → u.cell? ⟨A, 0, none⟩ = some (.int .u32 (x0 : Nat))))
    (g1 : Hid (∀ u, Below (A + 1) wr u → u.cell? ⟨A, 1, none⟩ = some (.int .u32 (x1 : Nat))))
    (g2 : Hid (∀ u, Below (A + 1) wr u → u.cell? ⟨A, 2, none⟩ = some (.int .u32 (x2 : Nat))))
    (g3 : Hid (∀ u, Below (A + 1) wr u → u.cell? ⟨A, 3, none⟩ = some (.int .u32 (x3 : Nat))))
    (hth : wr.there A 0 4)
    (HQ : ∀ u4, Below (A + 1) wr u4 → Q .normal ⟨#[.pointer (some ⟨g, o, none⟩), s1, s2, s3, s4, .pointer (some ⟨A, 0, none⟩), .int .i64 (r1 : Nat), s7, s8, s9, s10, s11, s12, s13, s14, s15, s16, s17, s18, s19, s20, s21, s22, s23, .pointer (some ⟨g, o, none⟩), .pointer (some ⟨g, o, none⟩), .pointer (some ⟨A, 0, none⟩), .int .u32 (x0 : Nat), .pointer (some ⟨A, 3, none⟩), .int .u32 (x3 : Nat), .pointer (some ⟨A, 2, none⟩), .int .u32 (x2 : Nat), .pointer (some ⟨A, 1, none⟩), .int .u32 (x1 : Nat), .int .u32 (m0 : Nat), .pointer (some ⟨g, o, none⟩), .pointer (some ⟨A, 1, none⟩), .int .u32 (x1 : Nat), .pointer (some ⟨A, 0, none⟩), .int .u32 (x0 : Nat), .pointer (some ⟨A, 3, none⟩), .int .u32 (x3 : Nat), .pointer (some ⟨A, 2, none⟩), .int .u32 (x2 : Nat), .int .u32 (m1 : Nat), .pointer (some ⟨g, o, none⟩), .pointer (some ⟨A, 2, none⟩), .int .u32 (x2 : Nat), .pointer (some ⟨A, 1, none⟩), .int .u32 (x1 : Nat), .pointer (some ⟨A, 0, none⟩), .int .u32 (x0 : Nat), .pointer (some ⟨A, 3, none⟩), .int .u32 (x3 : Nat), .int .u32 (m2 : Nat), .pointer (some ⟨g, o, none⟩), .pointer (some ⟨A, 3, none⟩), .int .u32 (x3 : Nat), .pointer (some ⟨A, 2, none⟩), .int .u32 (x2 : Nat), .pointer (some ⟨A, 1, none⟩), .int .u32 (x1 : Nat), .pointer (some ⟨A, 0, none⟩), .int .u32 (x0 : Nat), .int .u32 (m3 : Nat), .agg #[.int .u32 (m0 : Nat), .int .u32 (m1 : Nat), .int .u32 (m2 : Nat), .int .u32 (m3 : Nat)], .int .i64 (r1 : Nat), .agg #[.int .u32 (n0 : Nat), .int .u32 (n1 : Nat), .int .u32 (n2 : Nat), .int .u32 (n3 : Nat)], s68, s69, s70, s71, s72, s73, s74, s75, s76, s77, s78, s79, s80, s81, s82, s83, s84, s85, s86, s87, s88, s89, s90, s91, s92, s93, s94, s95, s96, s97, s98, s99, s100, s101, s102, s103, s104, s105, s106, s107, s108, s109, s110, s111, s112, s113, s114, s115, s116, s117, s118, s119, s120, s121, s122, s123, s124, s125, s126, s127, s128], []⟩ (u4.setCells A 0 [.int .u32 (n0 : Nat), .int .u32 (n1 : Nat), .int .u32 (n2 : Nat), .int .u32 (n3 : Nat)])) :
    (Code.region 5 #[{ dst := some 24, op := Op.move (Operand.tmp 0), type := 113, pos := "cipher.go:122", after := #[], guard := none }, { dst := some 25, op := Op.move (Operand.tmp 0), type := 113, pos := "cipher.go:122", after := #[], guard := none }, { dst := some 26, op := Op.indexAddr 115 (Operand.tmp 5) (Operand.const (Value.int IntKind.i64 0)), type := 0, pos := "cipher.go:122", after := #[], guard := none }, { dst := some 27, op := Op.load 50 (Operand.tmp 26), type := 50, pos := "cipher.go:122", after := #[{ on := 2, ground := Ground.data }], guard := none }, { dst := some 28, op := Op.indexAddr 115 (Operand.tmp 5) (Operand.const (Value.int IntKind.i64 3)), type := 0, pos := "cipher.go:122", after := #[], guard := none }, { dst := some 29, op := Op.load 50 (Operand.tmp 28), type := 50, pos := "cipher.go:122", after := #[{ on := 4, ground := Ground.data }], guard := none }, { dst := some 30, op := Op.indexAddr 115 (Operand.tmp 5) (Operand.const (Value.int IntKind.i64 2)), type := 0, pos := "cipher.go:122", after := #[], guard := none }, { dst := some 31, op := Op.load 50 (Operand.tmp 30), type := 50, pos := "cipher.go:122", after := #[{ on := 6, ground := Ground.data }], guard := none }, { dst := some 32, op := Op.indexAddr 115 (Operand.tmp 5) (Operand.const (Value.int IntKind.i64 1)), type := 0, pos := "cipher.go:122", after := #[], guard := none }, { dst := some 33, op := Op.load 50 (Operand.tmp 32), type := 50, pos := "cipher.go:122", after := #[{ on := 8, ground := Ground.data }], guard := none }, { dst := some 34, op := Op.call { callee := Callee.value (Operand.func 68), args := #[Operand.tmp 25, Operand.tmp 27, Operand.tmp 29, Operand.tmp 31, Operand.tmp 33], argTypes := #[113, 50, 50, 50, 50] }, type := 50, pos := "cipher.go:123", after := #[{ on := 1, ground := Ground.data }, { on := 3, ground := Ground.data }, { on := 5, ground := Ground.data }, { on := 7, ground := Ground.data }, { on := 9, ground := Ground.data }], guard := none }, { dst := some 35, op := Op.move (Operand.tmp 0), type := 113, pos := "cipher.go:122", after := #[], guard := none }, { dst := some 36, op := Op.indexAddr 115 (Operand.tmp 5) (Operand.const (Value.int IntKind.i64 1)), type := 0, pos := "cipher.go:122", after := #[], guard := none }, { dst := some 37, op := Op.load 50 (Operand.tmp 36), type := 50, pos := "cipher.go:122", after := #[{ on := 12, ground := Ground.data }], guard := none }, { dst := some 38, op := Op.indexAddr 115 (Operand.tmp 5) (Operand.const (Value.int IntKind.i64 0)), type := 0, pos := "cipher.go:122", after := #[], guard := none }, { dst := some 39, op := Op.load 50 (Operand.tmp 38), type := 50, pos := "cipher.go:122", after := #[{ on := 14, ground := Ground.data }], guard := none }, { dst := some 40, op := Op.indexAddr 115 (Operand.tmp 5) (Operand.const (Value.int IntKind.i64 3)), type := 0, pos := "cipher.go:122", after := #[], guard := none }, { dst := some 41, op := Op.load 50 (Operand.tmp 40), type := 50, pos := "cipher.go:122", after := #[{ on := 16, ground := Ground.data }], guard := none }, { dst := some 42, op := Op.indexAddr 115 (Operand.tmp 5) (Operand.const (Value.int IntKind.i64 2)), type := 0, pos := "cipher.go:122", after := #[], guard := none }, { dst := some 43, op := Op.load 50 (Operand.tmp 42), type := 50, pos := "cipher.go:122", after := #[{ on := 18, ground := Ground.data }], guard := none }, { dst := some 44, op := Op.call { callee := Callee.value (Operand.func 68), args := #[Operand.tmp 35, Operand.tmp 37, Operand.tmp 39, Operand.tmp 41, Operand.tmp 43], argTypes := #[113, 50, 50, 50, 50] }, type := 50, pos := "cipher.go:124", after := #[{ on := 11, ground := Ground.data }, { on := 13, ground := Ground.data }, { on := 15, ground := Ground.data }, { on := 17, ground := Ground.data }, { on := 19, ground := Ground.data }, { on := 10, ground := Ground.chain }], guard := none }, { dst := some 45, op := Op.move (Operand.tmp 0), type := 113, pos := "cipher.go:122", after := #[], guard := none }, { dst := some 46, op := Op.indexAddr 115 (Operand.tmp 5) (Operand.const (Value.int IntKind.i64 2)), type := 0, pos := "cipher.go:122", after := #[], guard := none }, { dst := some 47, op := Op.load 50 (Operand.tmp 46), type := 50, pos := "cipher.go:122", after := #[{ on := 22, ground := Ground.data }], guard := none }, { dst := some 48, op := Op.indexAddr 115 (Operand.tmp 5) (Operand.const (Value.int IntKind.i64 1)), type := 0, pos := "cipher.go:122", after := #[], guard := none }, { dst := some 49, op := Op.load 50 (Operand.tmp 48), type := 50, pos := "cipher.go:122", after := #[{ on := 24, ground := Ground.data }], guard := none }, { dst := some 50, op := Op.indexAddr 115 (Operand.tmp 5) (Operand.const (Value.int IntKind.i64 0)), type := 0, pos := "cipher.go:122", after := #[], guard := none }, { dst := some 51, op := Op.load 50 (Operand.tmp 50), type := 50, pos := "cipher.go:122", after := #[{ on := 26, ground := Ground.data }], guard := none }, { dst := some 52, op := Op.indexAddr 115 (Operand.tmp 5) (Operand.const (Value.int IntKind.i64 3)), type := 0, pos := "cipher.go:122", after := #[], guard := none }, { dst := some 53, op := Op.load 50 (Operand.tmp 52), type := 50, pos := "cipher.go:122", after := #[{ on := 28, ground := Ground.data }], guard := none }, { dst := some 54, op := Op.call { callee := Callee.value (Operand.func 68), args := #[Operand.tmp 45, Operand.tmp 47, Operand.tmp 49, Operand.tmp 51, Operand.tmp 53], argTypes := #[113, 50, 50, 50, 50] }, type := 50, pos := "cipher.go:125", after := #[{ on := 21, ground := Ground.data }, { on := 23, ground := Ground.data }, { on := 25, ground := Ground.data }, { on := 27, ground := Ground.data }, { on := 29, ground := Ground.data }, { on := 20, ground := Ground.chain }], guard := none }, { dst := some 55, op := Op.move (Operand.tmp 0), type := 113, pos := "cipher.go:122", after := #[], guard := none }, { dst := some 56, op := Op.indexAddr 115 (Operand.tmp 5) (Operand.const (Value.int IntKind.i64 3)), type := 0, pos := "cipher.go:122", after := #[], guard := none }, { dst := some 57, op := Op.load 50 (Operand.tmp 56), type := 50, pos := "cipher.go:122", after := #[{ on := 32, ground := Ground.data }], guard := none }, { dst := some 58, op := Op.indexAddr 115 (Operand.tmp 5) (Operand.const (Value.int IntKind.i64 2)), type := 0, pos := "cipher.go:122", after := #[], guard := none }, { dst := some 59, op := Op.load 50 (Operand.tmp 58), type := 50, pos := "cipher.go:122", after := #[{ on := 34, ground := Ground.data }], guard := none }, { dst := some 60, op := Op.indexAddr 115 (Operand.tmp 5) (Operand.const (Value.int IntKind.i64 1)), type := 0, pos := "cipher.go:122", after := #[], guard := none }, { dst := some 61, op := Op.load 50 (Operand.tmp 60), type := 50, pos := "cipher.go:122", after := #[{ on := 36, ground := Ground.data }], guard := none }, { dst := some 62, op := Op.indexAddr 115 (Operand.tmp 5) (Operand.const (Value.int IntKind.i64 0)), type := 0, pos := "cipher.go:122", after := #[], guard := none }, { dst := some 63, op := Op.load 50 (Operand.tmp 62), type := 50, pos := "cipher.go:122", after := #[{ on := 38, ground := Ground.data }], guard := none }, { dst := some 64, op := Op.call { callee := Callee.value (Operand.func 68), args := #[Operand.tmp 55, Operand.tmp 57, Operand.tmp 59, Operand.tmp 61, Operand.tmp 63], argTypes := #[113, 50, 50, 50, 50] }, type := 50, pos := "cipher.go:126", after := #[{ on := 31, ground := Ground.data }, { on := 33, ground := Ground.data }, { on := 35, ground := Ground.data }, { on := 37, ground := Ground.data }, { on := 39, ground := Ground.data }, { on := 30, ground := Ground.chain }], guard := none }, { dst := some 65, op := Op.build 115 #[(0, Operand.tmp 34), (1, Operand.tmp 44), (2, Operand.tmp 54), (3, Operand.tmp 64)], type := 115, pos := "cipher.go:122", after := #[{ on := 10, ground := Ground.data }, { on := 20, ground := Ground.data }, { on := 30, ground := Ground.data }, { on := 40, ground := Ground.data }], guard := none }, { dst := some 66, op := Op.move (Operand.tmp 6), type := 3, pos := "cipher.go:122", after := #[], guard := none }, { dst := some 67, op := Op.call { callee := Callee.value (Operand.func 63), args := #[Operand.tmp 24, Operand.tmp 65, Operand.tmp 66], argTypes := #[113, 115, 3] }, type := 115, pos := "cipher.go:122", after := #[{ on := 0, ground := Ground.data }, { on := 41, ground := Ground.data }, { on := 42, ground := Ground.data }, { on := 40, ground := Ground.chain }], guard := none }, { dst := none, op := Op.store 115 (Operand.tmp 5) (Operand.tmp 67), type := 0, pos := "cipher.go:122", after := #[{ on := 43, ground := Ground.data }, { on := 43, ground := Ground.chain }, { on := 0, ground := Ground.phase }, { on := 1, ground := Ground.phase }, { on := 2, ground := Ground.phase }, { on := 3, ground := Ground.phase }, { on := 4, ground := Ground.phase }, { on := 5, ground := Ground.phase }, { on := 6, ground := Ground.phase }, { on := 7, ground := Ground.phase }, { on := 8, ground := Ground.phase }, { on := 9, ground := Ground.phase }, { on := 10, ground := Ground.phase }, { on := 11, ground := Ground.phase }, { on := 12, ground := Ground.phase }, { on := 13, ground := Ground.phase }, { on := 14, ground := Ground.phase }, { on := 15, ground := Ground.phase }, { on := 16, ground := Ground.phase }, { on := 17, ground := Ground.phase }, { on := 18, ground := Ground.phase }, { on := 19, ground := Ground.phase }, { on := 20, ground := Ground.phase }, { on := 21, ground := Ground.phase }, { on := 22, ground := Ground.phase }, { on := 23, ground := Ground.phase }, { on := 24, ground := Ground.phase }, { on := 25, ground := Ground.phase }, { on := 26, ground := Ground.phase }, { on := 27, ground := Ground.phase }, { on := 28, ground := Ground.phase }, { on := 29, ground := Ground.phase }, { on := 30, ground := Ground.phase }, { on := 31, ground := Ground.phase }, { on := 32, ground := Ground.phase }, { on := 33, ground := Ground.phase }, { on := 34, ground := Ground.phase }, { on := 35, ground := Ground.phase }, { on := 36, ground := Ground.phase }, { on := 37, ground := Ground.phase }, { on := 38, ground := Ground.phase }, { on := 39, ground := Ground.phase }, { on := 40, ground := Ground.phase }, { on := 41, ground := Ground.phase }, { on := 42, ground := Ground.phase }, { on := 43, ground := Ground.phase }], guard := none }] true).wp Tryd.prog Q ⟨#[.pointer (some ⟨g, o, none⟩), s1, s2, s3, s4, .pointer (some ⟨A, 0, none⟩), .int .i64 (r1 : Nat), s7, s8, s9, s10, s11, s12, s13, s14, s15, s16, s17, s18, s19, s20, s21, s22, s23, s24, s25, s26, s27, s28, s29, s30, s31, s32, s33, s34, s35, s36, s37, s38, s39, s40, s41, s42, s43, s44, s45, s46, s47, s48, s49, s50, s51, s52, s53, s54, s55, s56, s57, s58, s59, s60, s61, s62, s63, s64, s65, s66, s67, s68, s69, s70, s71, s72, s73, s74, s75, s76, s77, s78, s79, s80, s81, s82, s83, s84, s85, s86, s87, s88, s89, s90, s91, s92, s93, s94, s95, s96, s97, s98, s99, s100, s101, s102, s103, s104, s105, s106, s107, s108, s109, s110, s111, s112, s113, s114, s115, s116, s117, s118, s119, s120, s121, s122, s123, s124, s125, s126, s127, s128], []⟩ wr := by
  have hS0 : Below (A + 1) wr wr.drew := (Below.refl _ _).drew
  refine wp_region_noPanic ?_
  refine wp_region_till (fun u => Below (A + 1) wr u) 43 (by kernel_rfl) (by decide) (by decide +kernel) (by decide +kernel) (by decide +kernel) (fun inv => ?_)
  refine till_at 0 24 (.pointer (some ⟨g, o, none⟩)) inv rfl rfl (by decide) (by decide +kernel) (by decide +kernel) (fun _ _ _ h => h) (hS0) (Or.inl ⟨by rfl, fun w' hS' => by go_simp⟩) (fun inv' => ?_)
  clear inv; have inv := inv'; clear inv'
  simp only [List.setIfInBounds_toArray, List.set_cons_zero, List.set_cons_succ]
  refine till_at 1 25 (.pointer (some ⟨g, o, none⟩)) inv rfl rfl (by decide) (by decide +kernel) (by decide +kernel) (fun _ _ _ h => h) (hS0) (Or.inl ⟨by rfl, fun w' hS' => by go_simp⟩) (fun inv' => ?_)
  clear inv; have inv := inv'; clear inv'
  simp only [List.setIfInBounds_toArray, List.set_cons_zero, List.set_cons_succ]
  refine till_at 2 26 (.pointer (some ⟨A, 0, none⟩)) inv rfl rfl (by decide) (by decide +kernel) (by decide +kernel) (fun _ _ _ h => h) (hS0) (Or.inl ⟨by rfl, fun w' hS' => by go_simp⟩) (fun inv' => ?_)
  clear inv; have inv := inv'; clear inv'
  simp only [List.setIfInBounds_toArray, List.set_cons_zero, List.set_cons_succ]
  refine till_at 3 27 (.int .u32 (x0 : Nat)) inv rfl rfl (by decide) (by decide +kernel) (by decide +kernel) (fun _ _ _ h => h) (hS0) (Or.inl ⟨by rfl, fun w' hS' => by have q := g0.out w' hS'; go_simp⟩) (fun inv' => ?_)
  clear inv; have inv := inv'; clear inv'
  simp only [List.setIfInBounds_toArray, List.set_cons_zero, List.set_cons_succ]
  refine till_at 4 28 (.pointer (some ⟨A, 3, none⟩)) inv rfl rfl (by decide) (by decide +kernel) (by decide +kernel) (fun _ _ _ h => h) (hS0) (Or.inl ⟨by rfl, fun w' hS' => by go_simp⟩) (fun inv' => ?_)
  clear inv; have inv := inv'; clear inv'
  simp only [List.setIfInBounds_toArray, List.set_cons_zero, List.set_cons_succ]
  refine till_at 5 29 (.int .u32 (x3 : Nat)) inv rfl rfl (by decide) (by decide +kernel) (by decide +kernel) (fun _ _ _ h => h) (hS0) (Or.inl ⟨by rfl, fun w' hS' => by have q := g3.out w' hS'; go_simp⟩) (fun inv' => ?_)
  clear inv; have inv := inv'; clear inv'
  simp only [List.setIfInBounds_toArray, List.set_cons_zero, List.set_cons_succ]
  refine till_at 6 30 (.pointer (some ⟨A, 2, none⟩)) inv rfl rfl (by decide) (by decide +kernel) (by decide +kernel) (fun _ _ _ h => h) (hS0) (Or.inl ⟨by rfl, fun w' hS' => by go_simp⟩) (fun inv' => ?_)
  clear inv; have inv := inv'; clear inv'
  simp only [List.setIfInBounds_toArray, List.set_cons_zero, List.set_cons_succ]
  refine till_at 7 31 (.int .u32 (x2 : Nat)) inv rfl rfl (by decide) (by decide +kernel) (by decide +kernel) (fun _ _ _ h => h) (hS0) (Or.inl ⟨by rfl, fun w' hS' => by have q := g2.out w' hS'; go_simp⟩) (fun inv' => ?_)
  clear inv; have inv := inv'; clear inv'
  simp only [List.setIfInBounds_toArray, List.set_cons_zero, List.set_cons_succ]
  refine till_at 8 32 (.pointer (some ⟨A, 1, none⟩)) inv rfl rfl (by decide) (by decide +kernel) (by decide +kernel) (fun _ _ _ h => h) (hS0) (Or.inl ⟨by rfl, fun w' hS' => by go_simp⟩) (fun inv' => ?_)
  clear inv; have inv := inv'; clear inv'
  simp only [List.setIfInBounds_toArray, List.set_cons_zero, List.set_cons_succ]
  refine till_at 9 33 (.int .u32 (x1 : Nat)) inv rfl rfl (by decide) (by decide +kernel) (by decide +kernel) (fun _ _ _ h => h) (hS0) (Or.inl ⟨by rfl, fun w' hS' => by have q := g1.out w' hS'; go_simp⟩) (fun inv' => ?_)
  clear inv; have inv := inv'; clear inv'
  simp only [List.setIfInBounds_toArray, List.set_cons_zero, List.set_cons_succ]
  refine till_at 11 35 (.pointer (some ⟨g, o, none⟩)) inv rfl rfl (by decide) (by decide +kernel) (by decide +kernel) (fun _ _ _ h => h) (hS0) (Or.inl ⟨by rfl, fun w' hS' => by go_simp⟩) (fun inv' => ?_)
  clear inv; have inv := inv'; clear inv'
  simp only [List.setIfInBounds_toArray, List.set_cons_zero, List.set_cons_succ]
  refine till_at 12 36 (.pointer (some ⟨A, 1, none⟩)) inv rfl rfl (by decide) (by decide +kernel) (by decide +kernel) (fun _ _ _ h => h) (hS0) (Or.inl ⟨by rfl, fun w' hS' => by go_simp⟩) (fun inv' => ?_)
  clear inv; have inv := inv'; clear inv'
  simp only [List.setIfInBounds_toArray, List.set_cons_zero, List.set_cons_succ]
  refine till_at 13 37 (.int .u32 (x1 : Nat)) inv rfl rfl (by decide) (by decide +kernel) (by decide +kernel) (fun _ _ _ h => h) (hS0) (Or.inl ⟨by rfl, fun w' hS' => by have q := g1.out w' hS'; go_simp⟩) (fun inv' => ?_)
  clear inv; have inv := inv'; clear inv'
  simp only [List.setIfInBounds_toArray, List.set_cons_zero, List.set_cons_succ]
  refine till_at 14 38 (.pointer (some ⟨A, 0, none⟩)) inv rfl rfl (by decide) (by decide +kernel) (by decide +kernel) (fun _ _ _ h => h) (hS0) (Or.inl ⟨by rfl, fun w' hS' => by go_simp⟩) (fun inv' => ?_)
  clear inv; have inv := inv'; clear inv'
  simp only [List.setIfInBounds_toArray, List.set_cons_zero, List.set_cons_succ]
  refine till_at 15 39 (.int .u32 (x0 : Nat)) inv rfl rfl (by decide) (by decide +kernel) (by decide +kernel) (fun _ _ _ h => h) (hS0) (Or.inl ⟨by rfl, fun w' hS' => by have q := g0.out w' hS'; go_simp⟩) (fun inv' => ?_)
  clear inv; have inv := inv'; clear inv'
  simp only [List.setIfInBounds_toArray, List.set_cons_zero, List.set_cons_succ]
  refine till_at 16 40 (.pointer (some ⟨A, 3, none⟩)) inv rfl rfl (by decide) (by decide +kernel) (by decide +kernel) (fun _ _ _ h => h) (hS0) (Or.inl ⟨by rfl, fun w' hS' => by go_simp⟩) (fun inv' => ?_)
  clear inv; have inv := inv'; clear inv'
  simp only [List.setIfInBounds_toArray, List.set_cons_zero, List.set_cons_succ]
  refine till_at 17 41 (.int .u32 (x3 : Nat)) inv rfl rfl (by decide) (by decide +kernel) (by decide +kernel) (fun _ _ _ h => h) (hS0) (Or.inl ⟨by rfl, fun w' hS' => by have q := g3.out w' hS'; go_simp⟩) (fun inv' => ?_)
  clear inv; have inv := inv'; clear inv'
  simp only [List.setIfInBounds_toArray, List.set_cons_zero, List.set_cons_succ]
  refine till_at 18 42 (.pointer (some ⟨A, 2, none⟩)) inv rfl rfl (by decide) (by decide +kernel) (by decide +kernel) (fun _ _ _ h => h) (hS0) (Or.inl ⟨by rfl, fun w' hS' => by go_simp⟩) (fun inv' => ?_)
  clear inv; have inv := inv'; clear inv'
  simp only [List.setIfInBounds_toArray, List.set_cons_zero, List.set_cons_succ]
  refine till_at 19 43 (.int .u32 (x2 : Nat)) inv rfl rfl (by decide) (by decide +kernel) (by decide +kernel) (fun _ _ _ h => h) (hS0) (Or.inl ⟨by rfl, fun w' hS' => by have q := g2.out w' hS'; go_simp⟩) (fun inv' => ?_)
  clear inv; have inv := inv'; clear inv'
  simp only [List.setIfInBounds_toArray, List.set_cons_zero, List.set_cons_succ]
  refine till_at 21 45 (.pointer (some ⟨g, o, none⟩)) inv rfl rfl (by decide) (by decide +kernel) (by decide +kernel) (fun _ _ _ h => h) (hS0) (Or.inl ⟨by rfl, fun w' hS' => by go_simp⟩) (fun inv' => ?_)
  clear inv; have inv := inv'; clear inv'
  simp only [List.setIfInBounds_toArray, List.set_cons_zero, List.set_cons_succ]
  refine till_at 22 46 (.pointer (some ⟨A, 2, none⟩)) inv rfl rfl (by decide) (by decide +kernel) (by decide +kernel) (fun _ _ _ h => h) (hS0) (Or.inl ⟨by rfl, fun w' hS' => by go_simp⟩) (fun inv' => ?_)
  clear inv; have inv := inv'; clear inv'
  simp only [List.setIfInBounds_toArray, List.set_cons_zero, List.set_cons_succ]
  refine till_at 23 47 (.int .u32 (x2 : Nat)) inv rfl rfl (by decide) (by decide +kernel) (by decide +kernel) (fun _ _ _ h => h) (hS0) (Or.inl ⟨by rfl, fun w' hS' => by have q := g2.out w' hS'; go_simp⟩) (fun inv' => ?_)
  clear inv; have inv := inv'; clear inv'
  simp only [List.setIfInBounds_toArray, List.set_cons_zero, List.set_cons_succ]
  refine till_at 24 48 (.pointer (some ⟨A, 1, none⟩)) inv rfl rfl (by decide) (by decide +kernel) (by decide +kernel) (fun _ _ _ h => h) (hS0) (Or.inl ⟨by rfl, fun w' hS' => by go_simp⟩) (fun inv' => ?_)
  clear inv; have inv := inv'; clear inv'
  simp only [List.setIfInBounds_toArray, List.set_cons_zero, List.set_cons_succ]
  refine till_at 25 49 (.int .u32 (x1 : Nat)) inv rfl rfl (by decide) (by decide +kernel) (by decide +kernel) (fun _ _ _ h => h) (hS0) (Or.inl ⟨by rfl, fun w' hS' => by have q := g1.out w' hS'; go_simp⟩) (fun inv' => ?_)
  clear inv; have inv := inv'; clear inv'
  simp only [List.setIfInBounds_toArray, List.set_cons_zero, List.set_cons_succ]
  refine till_at 26 50 (.pointer (some ⟨A, 0, none⟩)) inv rfl rfl (by decide) (by decide +kernel) (by decide +kernel) (fun _ _ _ h => h) (hS0) (Or.inl ⟨by rfl, fun w' hS' => by go_simp⟩) (fun inv' => ?_)
  clear inv; have inv := inv'; clear inv'
  simp only [List.setIfInBounds_toArray, List.set_cons_zero, List.set_cons_succ]
  refine till_at 27 51 (.int .u32 (x0 : Nat)) inv rfl rfl (by decide) (by decide +kernel) (by decide +kernel) (fun _ _ _ h => h) (hS0) (Or.inl ⟨by rfl, fun w' hS' => by have q := g0.out w' hS'; go_simp⟩) (fun inv' => ?_)
  clear inv; have inv := inv'; clear inv'
  simp only [List.setIfInBounds_toArray, List.set_cons_zero, List.set_cons_succ]
  refine till_at 28 52 (.pointer (some ⟨A, 3, none⟩)) inv rfl rfl (by decide) (by decide +kernel) (by decide +kernel) (fun _ _ _ h => h) (hS0) (Or.inl ⟨by rfl, fun w' hS' => by go_simp⟩) (fun inv' => ?_)
  clear inv; have inv := inv'; clear inv'
  simp only [List.setIfInBounds_toArray, List.set_cons_zero, List.set_cons_succ]
  refine till_at 29 53 (.int .u32 (x3 : Nat)) inv rfl rfl (by decide) (by decide +kernel) (by decide +kernel) (fun _ _ _ h => h) (hS0) (Or.inl ⟨by rfl, fun w' hS' => by have q := g3.out w' hS'; go_simp⟩) (fun inv' => ?_)
  clear inv; have inv := inv'; clear inv'
  simp only [List.setIfInBounds_toArray, List.set_cons_zero, List.set_cons_succ]
  refine till_at 31 55 (.pointer (some ⟨g, o, none⟩)) inv rfl rfl (by decide) (by decide +kernel) (by decide +kernel) (fun _ _ _ h => h) (hS0) (Or.inl ⟨by rfl, fun w' hS' => by go_simp⟩) (fun inv' => ?_)
  clear inv; have inv := inv'; clear inv'
  simp only [List.setIfInBounds_toArray, List.set_cons_zero, List.set_cons_succ]
  refine till_at 32 56 (.pointer (some ⟨A, 3, none⟩)) inv rfl rfl (by decide) (by decide +kernel) (by decide +kernel) (fun _ _ _ h => h) (hS0) (Or.inl ⟨by rfl, fun w' hS' => by go_simp⟩) (fun inv' => ?_)
  clear inv; have inv := inv'; clear inv'
  simp only [List.setIfInBounds_toArray, List.set_cons_zero, List.set_cons_succ]
  refine till_at 33 57 (.int .u32 (x3 : Nat)) inv rfl rfl (by decide) (by decide +kernel) (by decide +kernel) (fun _ _ _ h => h) (hS0) (Or.inl ⟨by rfl, fun w' hS' => by have q := g3.out w' hS'; go_simp⟩) (fun inv' => ?_)
  clear inv; have inv := inv'; clear inv'
  simp only [List.setIfInBounds_toArray, List.set_cons_zero, List.set_cons_succ]
  refine till_at 34 58 (.pointer (some ⟨A, 2, none⟩)) inv rfl rfl (by decide) (by decide +kernel) (by decide +kernel) (fun _ _ _ h => h) (hS0) (Or.inl ⟨by rfl, fun w' hS' => by go_simp⟩) (fun inv' => ?_)
  clear inv; have inv := inv'; clear inv'
  simp only [List.setIfInBounds_toArray, List.set_cons_zero, List.set_cons_succ]
  refine till_at 35 59 (.int .u32 (x2 : Nat)) inv rfl rfl (by decide) (by decide +kernel) (by decide +kernel) (fun _ _ _ h => h) (hS0) (Or.inl ⟨by rfl, fun w' hS' => by have q := g2.out w' hS'; go_simp⟩) (fun inv' => ?_)
  clear inv; have inv := inv'; clear inv'
  simp only [List.setIfInBounds_toArray, List.set_cons_zero, List.set_cons_succ]
  refine till_at 36 60 (.pointer (some ⟨A, 1, none⟩)) inv rfl rfl (by decide) (by decide +kernel) (by decide +kernel) (fun _ _ _ h => h) (hS0) (Or.inl ⟨by rfl, fun w' hS' => by go_simp⟩) (fun inv' => ?_)
  clear inv; have inv := inv'; clear inv'
  simp only [List.setIfInBounds_toArray, List.set_cons_zero, List.set_cons_succ]
  refine till_at 37 61 (.int .u32 (x1 : Nat)) inv rfl rfl (by decide) (by decide +kernel) (by decide +kernel) (fun _ _ _ h => h) (hS0) (Or.inl ⟨by rfl, fun w' hS' => by have q := g1.out w' hS'; go_simp⟩) (fun inv' => ?_)
  clear inv; have inv := inv'; clear inv'
  simp only [List.setIfInBounds_toArray, List.set_cons_zero, List.set_cons_succ]
  refine till_at 38 62 (.pointer (some ⟨A, 0, none⟩)) inv rfl rfl (by decide) (by decide +kernel) (by decide +kernel) (fun _ _ _ h => h) (hS0) (Or.inl ⟨by rfl, fun w' hS' => by go_simp⟩) (fun inv' => ?_)
  clear inv; have inv := inv'; clear inv'
  simp only [List.setIfInBounds_toArray, List.set_cons_zero, List.set_cons_succ]
  refine till_at 39 63 (.int .u32 (x0 : Nat)) inv rfl rfl (by decide) (by decide +kernel) (by decide +kernel) (fun _ _ _ h => h) (hS0) (Or.inl ⟨by rfl, fun w' hS' => by have q := g0.out w' hS'; go_simp⟩) (fun inv' => ?_)
  clear inv; have inv := inv'; clear inv'
  simp only [List.setIfInBounds_toArray, List.set_cons_zero, List.set_cons_succ]
  refine till_at 42 66 (.int .i64 (r1 : Nat)) inv rfl rfl (by decide) (by decide +kernel) (by decide +kernel) (fun _ _ _ h => h) (hS0) (Or.inl ⟨by rfl, fun w' hS' => by go_simp⟩) (fun inv' => ?_)
  clear inv; have inv := inv'; clear inv'
  simp only [List.setIfInBounds_toArray, List.set_cons_zero, List.set_cons_succ]
  refine till_head (i := 10) inv (by decide +kernel) (by decide) rfl (fun K hK => ?_)
  go_simp
  refine (k0.out _ hS0).mono ?_
  rintro e1 u0 ⟨rfl, hu0⟩
  go_wp2_with fail
  refine hK.out _ _ hu0 (fun inv' => ?_)
  clear hK K inv; have inv := inv'; clear inv'
  try simp only [List.setIfInBounds_toArray, List.set_cons_zero, List.set_cons_succ]
  refine till_head (i := 20) inv (by decide +kernel) (by decide) rfl (fun K hK => ?_)
  go_simp
  refine (k1.out _ hu0).mono ?_
  rintro e1 u1 ⟨rfl, hu1⟩
  go_wp2_with fail
  refine hK.out _ _ hu1 (fun inv' => ?_)
  clear hK K inv; have inv := inv'; clear inv'
  try simp only [List.setIfInBounds_toArray, List.set_cons_zero, List.set_cons_succ]
  refine till_head (i := 30) inv (by decide +kernel) (by decide) rfl (fun K hK => ?_)
  go_simp
  refine (k2.out _ hu1).mono ?_
  rintro e1 u2 ⟨rfl, hu2⟩
  go_wp2_with fail
  refine hK.out _ _ hu2 (fun inv' => ?_)
  clear hK K inv; have inv := inv'; clear inv'
  try simp only [List.setIfInBounds_toArray, List.set_cons_zero, List.set_cons_succ]
  refine till_head (i := 40) inv (by decide +kernel) (by decide) rfl (fun K hK => ?_)
  go_simp
  refine (k3.out _ hu2).mono ?_
  rintro e1 u3 ⟨rfl, hu3⟩
  go_wp2_with fail
  refine hK.out _ _ hu3 (fun inv' => ?_)
  clear hK K inv; have inv := inv'; clear inv'
  try simp only [List.setIfInBounds_toArray, List.set_cons_zero, List.set_cons_succ]
  refine till_at 41 65 (.agg #[.int .u32 (m0 : Nat), .int .u32 (m1 : Nat), .int .u32 (m2 : Nat), .int .u32 (m3 : Nat)]) inv rfl rfl (by decide) (by decide +kernel) (by decide +kernel) (fun _ _ _ h => h) (hu3) (yieldsIf_build (by rfl) 115 #[(0, .tmp 34), (1, .tmp 44), (2, .tmp 54), (3, .tmp 64)] rfl _ (by simp only [List.map_toArray, List.map_cons, List.map_nil]; kernel_rfl)) (fun inv' => ?_)
  clear inv; have inv := inv'; clear inv'
  simp only [List.setIfInBounds_toArray, List.set_cons_zero, List.set_cons_succ]
  refine till_tail (i := 43) (by decide +kernel) (by decide) rfl (fun K hK => ?_)
  go_simp
  refine (ka.out _ hu3).mono ?_
  rintro e1 u4 ⟨rfl, hu4⟩
  go_wp2_with fail
  refine hK.out _ _ ?_
  clear hK K
  try simp only [List.setIfInBounds_toArray, List.set_cons_zero, List.set_cons_succ]
  refine till_tail (i := 44) (by decide +kernel) (by decide) rfl (fun K hK => ?_)
  rw [if_pos (by rfl)]
  refine wp_store_mid 115 (.tmp 5) (.tmp 67) rfl A 0 #[.int .u32 (n0 : Nat), .int .u32 (n1 : Nat), .int .u32 (n2 : Nat), .int .u32 (n3 : Nat)] rfl rfl (there_below hth hu4 (Nat.lt_succ_self A)) (size115) (by kernel_rfl) ?_
  refine hK.out _ _ ?_
  clear hK K
  try simp only [List.setIfInBounds_toArray, List.set_cons_zero, List.set_cons_succ]
  refine till_done (by decide +kernel) ?_ _
  refine NoPanic.normal ?_
  exact HQ _ hu4
end Go.Proofs.YtgmfiljjogdccaaDoor
namespace Go.Proofs.YtgmfiljjogdccaaDoor
open Go.RowKit
set_option linter.unusedVariables false
set_option linter.unusedSimpArgs false
set_option maxHeartbeats 6400000 in
set_option maxRecDepth 100000 in
theorem dec_r6 {Q : Exit → Act → World → Prop} (s1 s2 s3 s4 s6 s7 s8 s9 s10 s11 s12 s13 s14 s15 s16 s17 s18 s19 s20 s21 s22 s23 s24 s25 s26 s27 s28 s29 s30 s31 s32 s33 s34 s35 s36 s37 s38 s39 s40 s41 s42 s43 s44 s45 s46 s47 s48 s49 s50 s51 s52 s53 s54 s55 s56 s57 s58 s59 s60 s61 s62 s63 s64 s65 s66 s67 s68 s69 s70 s71 s72 s73 s74 s75 s76 s77 s78 s79 s80 s81 s82 s83 s84 s85 s86 s87 s88 s89 s90 s91 s92 s93 s94 s95 s96 s97 s98 s99 s100 s101 s102 s103 s104 s105 s106 s107 s108 s109 s110 s111 s112 s113 s114 s115 s116 s117 s118 s119 s120 s121 s122 s123 s124 s125 s126 s127 s128 : Value) (g o A n0 n1 n2 n3 y0 y1 y2 y3 : Nat) (wr : World)
    (k0 : Hid (∀ u, Below (A + 1) wr u → Calls Tryd.prog 69 #[.pointer (some ⟨g, o, none⟩), .int .u32 (n0 : Nat)] u fun e u' => e = .returned (.int .u32 (y0 : Nat)) ∧ Below (A + 1) wr u'))
    (k1 : Hid (∀ u, Below (A + 1) wr u → Calls Tryd.prog 69 #[.pointer (some ⟨g, o, none⟩), .int .u32 (n1 : Nat)] u fun e u' => e = .returned (.int .u32 (y1 : Nat)) ∧ Below (A + 1) wr u'))
    (k2 : Hid (∀ u, Below (A + 1) wr u → Calls Tryd.prog 69 #[.pointer (some ⟨g, o, none⟩), .int .u32 (n2 : Nat)] u fun e u' => e = .returned (.int .u32 (y2 : Nat)) ∧ Below (A + 1) wr u'))
    (k3 : Hid (∀ u, Below (A + 1) wr u → Calls Tryd.prog 69 #[.pointer (some ⟨g, o, none⟩), .int .u32 (n3 : Nat)] u fun e u' => e = .returned (.int .u32 (y3 : Nat)) ∧ Below (A + 1) wr u'))
    (g0 : Hid (∀ u, Below (A + 1) wr u → u.cell? ⟨A, 0, none⟩ = some (.int .u32 (n0 : Nat))))
    (g1 : Hid (∀ u, Below (A + 1) wr u → u.cell? ⟨A, 1, none⟩ = some (.int .u32 (n1 : Nat))))
    (g2 : Hid (∀ u, Below (A + 1) wr u → u.cell? ⟨A, 2, none⟩ = some (.int .u32 (n2 : Nat))))
    (g3 : Hid (∀ u, Below (A + 1) wr u → u.cell? ⟨A, 3, none⟩ = some (.int .u32 (n3 : Nat))))
    (hth : wr.there A 0 4)
    (HQ : ∀ v3, Below (A + 1) wr v3 → Q .normal ⟨#[.pointer (some ⟨g, o, none⟩), s1, s2, s3, s4, .pointer (some ⟨A, 0, none⟩), s6, s7, s8, s9, s10, s11, s12, s13, s14, s15, s16, s17, s18, s19, s20, s21, s22, s23, s24, s25, s26, s27, s28, s29, s30, s31, s32, s33, s34, s35, s36, s37, s38, s39, s40, s41, s42, s43, s44, s45, s46, s47, s48, s49, s50, s51, s52, s53, s54, s55, s56, s57, s58, s59, s60, s61, s62, s63, s64, s65, s66, s67, .pointer (some ⟨g, o, none⟩), .pointer (some ⟨A, 0, none⟩), .int .u32 (n0 : Nat), .int .u32 (y0 : Nat), .pointer (some ⟨g, o, none⟩), .pointer (some ⟨A, 1, none⟩), .int .u32 (n1 : Nat), .int .u32 (y1 : Nat), .pointer (some ⟨g, o, none⟩), .pointer (some ⟨A, 2, none⟩), .int .u32 (n2 : Nat), .int .u32 (y2 : Nat), .pointer (some ⟨g, o, none⟩), .pointer (some ⟨A, 3, none⟩), .int .u32 (n3 : Nat), .int .u32 (y3 : Nat), .agg #[.int .u32 (y0 : Nat), .int .u32 (y1 : Nat), .int .u32 (y2 : Nat), .int .u32 (y3 : Nat)], s85, s86, s87, s88, s89, s90, s91, s92, s93, s94, s95, s96, s97, s98, s99, s100, s101, s102, s103, s104, s105, s106, s107, s108, s109, s110, s111, s112, s113, s114, s115, s116, s117, s118, s119, s120, s121, s122, s123, s124, s125, s126, s127, s128], []⟩ (v3.setCells A 0 [.int .u32 (y0 : Nat), .int .u32 (y1 : Nat), .int .u32 (y2 : Nat), .int .u32 (y3 : Nat)])) :
    (Code.region 6 #[{ dst := some 68, op := Op.move (Operand.tmp 0), type := 113, pos := "cipher.go:128", after := #[], guard := none }, { dst := some 69, op := Op.indexAddr 115 (Operand.tmp 5) (Operand.const (Value.int IntKind.i64 0)), type := 0, pos := "cipher.go:128", after := #[], guard := none }, { dst := some 70, op := Op.load 50 (Operand.tmp 69), type := 50, pos := "cipher.go:128", after := #[{ on := 1, ground := Ground.data }], guard := none }, { dst := some 71, op := Op.call { callee := Callee.value (Operand.func 69), args := #[Operand.tmp 68, Operand.tmp 70], argTypes := #[113, 50] }, type := 50, pos := "cipher.go:128", after := #[{ on := 0, ground := Ground.data }, { on := 2, ground := Ground.data }], guard := none }, { dst := some 72, op := Op.move (Operand.tmp 0), type := 113, pos := "cipher.go:128", after := #[], guard := none }, { dst := some 73, op := Op.indexAddr 115 (Operand.tmp 5) (Operand.const (Value.int IntKind.i64 1)), type := 0, pos := "cipher.go:128", after := #[], guard := none }, { dst := some 74, op := Op.load 50 (Operand.tmp 73), type := 50, pos := "cipher.go:128", after := #[{ on := 5, ground := Ground.data }], guard := none }, { dst := some 75, op := Op.call { callee := Callee.value (Operand.func 69), args := #[Operand.tmp 72, Operand.tmp 74], argTypes := #[113, 50] }, type := 50, pos := "cipher.go:128", after := #[{ on := 4, ground := Ground.data }, { on := 6, ground := Ground.data }, { on := 3, ground := Ground.chain }], guard := none }, { dst := some 76, op := Op.move (Operand.tmp 0), type := 113, pos := "cipher.go:128", after := #[], guard := none }, { dst := some 77, op := Op.indexAddr 115 (Operand.tmp 5) (Operand.const (Value.int IntKind.i64 2)), type := 0, pos := "cipher.go:128", after := #[], guard := none }, { dst := some 78, op := Op.load 50 (Operand.tmp 77), type := 50, pos := "cipher.go:128", after := #[{ on := 9, ground := Ground.data }], guard := none }, { dst := some 79, op := Op.call { callee := Callee.value (Operand.func 69), args := #[Operand.tmp 76, Operand.tmp 78], argTypes := #[113, 50] }, type := 50, pos := "cipher.go:128", after := #[{ on := 8, ground := Ground.data }, { on := 10, ground := Ground.data }, { on := 7, ground := Ground.chain }], guard := none }, { dst := some 80, op := Op.move (Operand.tmp 0), type := 113, pos := "cipher.go:128", after := #[], guard := none }, { dst := some 81, op := Op.indexAddr 115 (Operand.tmp 5) (Operand.const (Value.int IntKind.i64 3)), type := 0, pos := "cipher.go:128", after := #[], guard := none }, { dst := some 82, op := Op.load 50 (Operand.tmp 81), type := 50, pos := "cipher.go:128", after := #[{ on := 13, ground := Ground.data }], guard := none }, { dst := some 83, op := Op.call { callee := Callee.value (Operand.func 69), args := #[Operand.tmp 80, Operand.tmp 82], argTypes := #[113, 50] }, type := 50, pos := "cipher.go:128", after := #[{ on := 12, ground := Ground.data }, { on := 14, ground := Ground.data }, { on := 11, ground := Ground.chain }], guard := none }, { dst := some 84, op := Op.build 115 #[(0, Operand.tmp 71), (1, Operand.tmp 75), (2, Operand.tmp 79), (3, Operand.tmp 83)], type := 115, pos := "cipher.go:128", after := #[{ on := 3, ground := Ground.data }, { on := 7, ground := Ground.data }, { on := 11, ground := Ground.data }, { on := 15, ground := Ground.data }], guard := none }, { dst := none, op := Op.store 115 (Operand.tmp 5) (Operand.tmp 84), type := 0, pos := "cipher.go:128", after := #[{ on := 16, ground := Ground.data }, { on := 15, ground := Ground.chain }, { on := 0, ground := Ground.phase }, { on := 1, ground := Ground.phase }, { on := 2, ground := Ground.phase }, { on := 3, ground := Ground.phase }, { on := 4, ground := Ground.phase }, { on := 5, ground := Ground.phase }, { on := 6, ground := Ground.phase }, { on := 7, ground := Ground.phase }, { on := 8, ground := Ground.phase }, { on := 9, ground := Ground.phase }, { on := 10, ground := Ground.phase }, { on := 11, ground := Ground.phase }, { on := 12, ground := Ground.phase }, { on := 13, ground := Ground.phase }, { on := 14, ground := Ground.phase }, { on := 15, ground := Ground.phase }, { on := 16, ground := Ground.phase }], guard := none }] true).wp Tryd.prog Q ⟨#[.pointer (some ⟨g, o, none⟩), s1, s2, s3, s4, .pointer (some ⟨A, 0, none⟩), s6, s7, s8, s9, s10, s11, s12, s13, s14, s15, s16, s17, s18, s19, s20, s21, s22, s23, s24, s25, s26, s27, s28, s29, s30, s31, s32, s33, s34, s35, s36, s37, s38, s39, s40, s41, s42, s43, s44, s45, s46, s47, s48, s49, s50, s51, s52, s53, s54, s55, s56, s57, s58, s59, s60, s61, s62, s63, s64, s65, s66, s67, s68, s69, s70, s71, s72, s73, s74, s75, s76, s77, s78, s79, s80, s81, s82, s83, s84, s85, s86, s87, s88, s89, s90, s91, s92, s93, s94, s95, s96, s97, s98, s99, s100, s101, s102, s103, s104, s105, s106, s107, s108, s109, s110, s111, s112, s113, s114, s115, s116, s117, s118, s119, s120, s121, s122, s123, s124, s125, s126, s127, s128], []⟩ wr := by
  have hS0 : Below (A + 1) wr wr.drew := (Below.refl _ _).drew
  refine wp_region_noPanic ?_
  refine wp_region_till (fun u => Below (A + 1) wr u) 17 (by kernel_rfl) (by decide) (by decide +kernel) (by decide +kernel) (by decide +kernel) (fun inv => ?_)
  refine till_at 0 68 (.pointer (some ⟨g, o, none⟩)) inv rfl rfl (by decide) (by decide +kernel) (by decide +kernel) (fun _ _ _ h => h) (hS0) (Or.inl ⟨by rfl, fun w' hS' => by go_simp⟩) (fun inv' => ?_)
  clear inv; have inv := inv'; clear inv'
  simp only [List.setIfInBounds_toArray, List.set_cons_zero, List.set_cons_succ]
  refine till_at 1 69 (.pointer (some ⟨A, 0, none⟩)) inv rfl rfl (by decide) (by decide +kernel) (by decide +kernel) (fun _ _ _ h => h) (hS0) (Or.inl ⟨by rfl, fun w' hS' => by go_simp⟩) (fun inv' => ?_)
  clear inv; have inv := inv'; clear inv'
  simp only [List.setIfInBounds_toArray, List.set_cons_zero, List.set_cons_succ]
  refine till_at 2 70 (.int .u32 (n0 : Nat)) inv rfl rfl (by decide) (by decide +kernel) (by decide +kernel) (fun _ _ _ h => h) (hS0) (Or.inl ⟨by rfl, fun w' hS' => by have q := g0.out w' hS'; go_simp⟩) (fun inv' => ?_)
  clear inv; have inv := inv'; clear inv'
  simp only [List.setIfInBounds_toArray, List.set_cons_zero, List.set_cons_succ]
  refine till_at 4 72 (.pointer (some ⟨g, o, none⟩)) inv rfl rfl (by decide) (by decide +kernel) (by decide +kernel) (fun _ _ _ h => h) (hS0) (Or.inl ⟨by rfl, fun w' hS' => by go_simp⟩) (fun inv' => ?_)
  clear inv; have inv := inv'; clear inv'
  simp only [List.setIfInBounds_toArray, List.set_cons_zero, List.set_cons_succ]
  refine till_at 5 73 (.pointer (some ⟨A, 1, none⟩)) inv rfl rfl (by decide) (by decide +kernel) (by decide +kernel) (fun _ _ _ h => h) (hS0) (Or.inl ⟨by rfl, fun w' hS' => by go_simp⟩) (fun inv' => ?_)
  clear inv; have inv := inv'; clear inv'
  simp only [List.setIfInBounds_toArray, List.set_cons_zero, List.set_cons_succ]
  refine till_at 6 74 (.int .u32 (n1 : Nat)) inv rfl rfl (by decide) (by decide +kernel) (by decide +kernel) (fun _ _ _ h => h) (hS0) (Or.inl ⟨by rfl, fun w' hS' => by have q := g1.out w' hS'; go_simp⟩) (fun inv' => ?_)
  clear inv; have inv := inv'; clear inv'
  simp only [List.setIfInBounds_toArray, List.set_cons_zero, List.set_cons_succ]
  refine till_at 8 76 (.pointer (some ⟨g, o, none⟩)) inv rfl rfl (by decide) (by decide +kernel) (by decide +kernel) (fun _ _ _ h => h) (hS0) (Or.inl ⟨by rfl, fun w' hS' => by go_simp⟩) (fun inv' => ?_)
  clear inv; have inv := inv'; clear inv'
  simp only [List.setIfInBounds_toArray, List.set_cons_zero, List.set_cons_succ]
  refine till_at 9 77 (.pointer (some ⟨A, 2, none⟩)) inv rfl rfl (by decide) (by decide +kernel) (by decide +kernel) (fun _ _ _ h => h) (hS0) (Or.inl ⟨by rfl, fun w' hS' => by go_simp⟩) (fun inv' => ?_)
  clear inv; have inv := inv'; clear inv'
  simp only [List.setIfInBounds_toArray, List.set_cons_zero, List.set_cons_succ]
  refine till_at 10 78 (.int .u32 (n2 : Nat)) inv rfl rfl (by decide) (by decide +kernel) (by decide +kernel) (fun _ _ _ h => h) (hS0) (Or.inl ⟨by rfl, fun w' hS' => by have q := g2.out w' hS'; go_simp⟩) (fun inv' => ?_)
  clear inv; have inv := inv'; clear inv'
  simp only [List.setIfInBounds_toArray, List.set_cons_zero, List.set_cons_succ]
  refine till_at 12 80 (.pointer (some ⟨g, o, none⟩)) inv rfl rfl (by decide) (by decide +kernel) (by decide +kernel) (fun _ _ _ h => h) (hS0) (Or.inl ⟨by rfl, fun w' hS' => by go_simp⟩) (fun inv' => ?_)
  clear inv; have inv := inv'; clear inv'
  simp only [List.setIfInBounds_toArray, List.set_cons_zero, List.set_cons_succ]
  refine till_at 13 81 (.pointer (some ⟨A, 3, none⟩)) inv rfl rfl (by decide) (by decide +kernel) (by decide +kernel) (fun _ _ _ h => h) (hS0) (Or.inl ⟨by rfl, fun w' hS' => by go_simp⟩) (fun inv' => ?_)
  clear inv; have inv := inv'; clear inv'
  simp only [List.setIfInBounds_toArray, List.set_cons_zero, List.set_cons_succ]
  refine till_at 14 82 (.int .u32 (n3 : Nat)) inv rfl rfl (by decide) (by decide +kernel) (by decide +kernel) (fun _ _ _ h => h) (hS0) (Or.inl ⟨by rfl, fun w' hS' => by have q := g3.out w' hS'; go_simp⟩) (fun inv' => ?_)
  clear inv; have inv := inv'; clear inv'
  simp only [List.setIfInBounds_toArray, List.set_cons_zero, List.set_cons_succ]
  refine till_head (i := 3) inv (by decide +kernel) (by decide) rfl (fun K hK => ?_)
  go_simp
  refine (k0.out _ hS0).mono ?_
  rintro e1 v0 ⟨rfl, hv0⟩
  go_wp2_with fail
  refine hK.out _ _ hv0 (fun inv' => ?_)
  clear hK K inv; have inv := inv'; clear inv'
  try simp only [List.setIfInBounds_toArray, List.set_cons_zero, List.set_cons_succ]
  refine till_head (i := 7) inv (by decide +kernel) (by decide) rfl (fun K hK => ?_)
  go_simp
  refine (k1.out _ hv0).mono ?_
  rintro e1 v1 ⟨rfl, hv1⟩
  go_wp2_with fail
  refine hK.out _ _ hv1 (fun inv' => ?_)
  clear hK K inv; have inv := inv'; clear inv'
  try simp only [List.setIfInBounds_toArray, List.set_cons_zero, List.set_cons_succ]
  refine till_head (i := 11) inv (by decide +kernel) (by decide) rfl (fun K hK => ?_)
  go_simp
  refine (k2.out _ hv1).mono ?_
  rintro e1 v2 ⟨rfl, hv2⟩
  go_wp2_with fail
  refine hK.out _ _ hv2 (fun inv' => ?_)
  clear hK K inv; have inv := inv'; clear inv'
  try simp only [List.setIfInBounds_toArray, List.set_cons_zero, List.set_cons_succ]
  refine till_head (i := 15) inv (by decide +kernel) (by decide) rfl (fun K hK => ?_)
  go_simp
  refine (k3.out _ hv2).mono ?_
  rintro e1 v3 ⟨rfl, hv3⟩
  go_wp2_with fail
  refine hK.out _ _ hv3 (fun inv' => ?_)
  clear hK K inv; have inv := inv'; clear inv'
  try simp only [List.setIfInBounds_toArray, List.set_cons_zero, List.set_cons_succ]
  refine till_at 16 84 (.agg #[.int .u32 (y0 : Nat), .int .u32 (y1 : Nat), .int .u32 (y2 : Nat), .int .u32 (y3 : Nat)]) inv rfl rfl (by decide) (by decide +kernel) (by decide +kernel) (fun _ _ _ h => h) (hv3) (yieldsIf_build (by rfl) 115 #[(0, .tmp 71), (1, .tmp 75), (2, .tmp 79), (3, .tmp 83)] rfl _ (by simp only [List.map_toArray, List.map_cons, List.map_nil]; kernel_rfl)) (fun inv' => ?_)
  clear inv; have inv := inv'; clear inv'
  simp only [List.setIfInBounds_toArray, List.set_cons_zero, List.set_cons_succ]
  refine till_tail (i := 17) (by decide +kernel) (by decide) rfl (fun K hK => ?_)
  rw [if_pos (by rfl)]
  refine wp_store_mid 115 (.tmp 5) (.tmp 84) rfl A 0 #[.int .u32 (y0 : Nat), .int .u32 (y1 : Nat), .int .u32 (y2 : Nat), .int .u32 (y3 : Nat)] rfl rfl (there_below hth hv3 (Nat.lt_succ_self A)) (size115) (by kernel_rfl) ?_
  refine hK.out _ _ ?_
  clear hK K
  try simp only [List.setIfInBounds_toArray, List.set_cons_zero, List.set_cons_succ]
  refine till_done (by decide +kernel) ?_ _
  refine NoPanic.normal ?_
  exact HQ _ hv3
end Go.Proofs.YtgmfiljjogdccaaDoor
