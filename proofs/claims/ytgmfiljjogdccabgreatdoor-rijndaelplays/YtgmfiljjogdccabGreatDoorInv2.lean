import Derived.Test.YtgmfiljjogdccabGreatDoorPart06
namespace Go.Proofs.YtgmfiljjogdccabGreatDoor
open Go.RowKit
set_option linter.unusedVariables false
theorem unm_wd (p q r t : Nat) (hp : p < 256) (hq : q < 256) (hr : r < 256) (ht : t < 256) : unmc p q r t =
  wd (((x14 p ^^^ x11 q) ^^^ x13 r) ^^^ x9 t) (((x9 p ^^^ x14 q) ^^^ x11 r) ^^^ x13 t) (((x13 p ^^^ x9 q) ^^^ x14 r) ^^^ x11 t) (((x11 p ^^^ x13 q) ^^^ x9 r) ^^^ x14 t) := by
 unfold unmc UX U8 U16 U24
 rw [wd_xor _ _ _ _ _ _ _ _ (xl9 hp) (xl13 hp) (xl11 hp) (xl14 hq) (xl9 hq) (xl13 hq), wd_xor _ _ _ _ _ _ _ _ (xor_lt8 (xl9 hp) (xl14 hq)) (xor_lt8 (xl13 hp) (xl9 hq)) (xor_lt8 (xl11 hp) (xl13 hq)) (xl11 hr) (xl14 hr) (xl9 hr),
  wd_xor _ _ _ _ _ _ _ _ (xor_lt8 (xor_lt8 (xl9 hp) (xl14 hq)) (xl11 hr)) (xor_lt8 (xor_lt8 (xl13 hp) (xl9 hq)) (xl14 hr)) (xor_lt8 (xor_lt8 (xl11 hp) (xl13 hq)) (xl9 hr)) (xl13 ht) (xl11 ht) (xl14 ht)]
 exact rfl
theorem x2_add4 {a b c d : Nat} (ha : a < 256) (hb : b < 256) (hc : c < 256) (hd : d < 256) : x2 (((a ^^^ b) ^^^ c) ^^^ d) = ((x2 a ^^^ x2 b) ^^^ x2 c) ^^^ x2 d := by
 have h1 : a ^^^ b < 256 := xor_lt8 ha hb
 have h2 : (a ^^^ b) ^^^ c < 256 := xor_lt8 h1 hc
 rw [x2_add h2 hd, x2_add h1 hc, x2_add ha hb]
theorem x3_add4 {a b c d : Nat} (ha : a < 256) (hb : b < 256) (hc : c < 256) (hd : d < 256) : x3 (((a ^^^ b) ^^^ c) ^^^ d) = ((x3 a ^^^ x3 b) ^^^ x3 c) ^^^ x3 d := by
 have h1 : a ^^^ b < 256 := xor_lt8 ha hb
 have h2 : (a ^^^ b) ^^^ c < 256 := xor_lt8 h1 hc
 rw [x3_add h2 hd, x3_add h1 hc, x3_add ha hb]
theorem x9_add4 {a b c d : Nat} (ha : a < 256) (hb : b < 256) (hc : c < 256) (hd : d < 256) : x9 (((a ^^^ b) ^^^ c) ^^^ d) = ((x9 a ^^^ x9 b) ^^^ x9 c) ^^^ x9 d := by
 have h1 : a ^^^ b < 256 := xor_lt8 ha hb
 have h2 : (a ^^^ b) ^^^ c < 256 := xor_lt8 h1 hc
 rw [x9_add h2 hd, x9_add h1 hc, x9_add ha hb]
theorem x11_add4 {a b c d : Nat} (ha : a < 256) (hb : b < 256) (hc : c < 256) (hd : d < 256) : x11 (((a ^^^ b) ^^^ c) ^^^ d) = ((x11 a ^^^ x11 b) ^^^ x11 c) ^^^ x11 d := by
 have h1 : a ^^^ b < 256 := xor_lt8 ha hb
 have h2 : (a ^^^ b) ^^^ c < 256 := xor_lt8 h1 hc
 rw [x11_add h2 hd, x11_add h1 hc, x11_add ha hb]
theorem x13_add4 {a b c d : Nat} (ha : a < 256) (hb : b < 256) (hc : c < 256) (hd : d < 256) : x13 (((a ^^^ b) ^^^ c) ^^^ d) = ((x13 a ^^^ x13 b) ^^^ x13 c) ^^^ x13 d := by
 have h1 : a ^^^ b < 256 := xor_lt8 ha hb
 have h2 : (a ^^^ b) ^^^ c < 256 := xor_lt8 h1 hc
 rw [x13_add h2 hd, x13_add h1 hc, x13_add ha hb]
theorem x14_add4 {a b c d : Nat} (ha : a < 256) (hb : b < 256) (hc : c < 256) (hd : d < 256) : x14 (((a ^^^ b) ^^^ c) ^^^ d) = ((x14 a ^^^ x14 b) ^^^ x14 c) ^^^ x14 d := by
 have h1 : a ^^^ b < 256 := xor_lt8 ha hb
 have h2 : (a ^^^ b) ^^^ c < 256 := xor_lt8 h1 hc
 rw [x14_add h2 hd, x14_add h1 hc, x14_add ha hb]
theorem unm_mc0 (p q r t : Nat) (hp : p < 256) (hq : q < 256) (hr : r < 256) (ht : t < 256) : ((((x14 ((((x2 p) ^^^ (x3 q)) ^^^ r) ^^^ t)) ^^^ (x11 (((p ^^^ (x2 q)) ^^^ (x3 r)) ^^^ t))) ^^^ (x13 (((p ^^^ q) ^^^ (x2 r)) ^^^ (x3 t)))) ^^^ (x9 ((((x3 p) ^^^ q) ^^^ r) ^^^ (x2 t)))) = p := by
 rw [x14_add4 (xl2 hp) (xl3 hq) hr ht, x11_add4 hp (xl2 hq) (xl3 hr) ht, x13_add4 hp hq (xl2 hr) (xl3 ht), x9_add4 (xl3 hp) hq hr (xl2 ht)]
 have e : (((((((x14 (x2 p)) ^^^ (x14 (x3 q))) ^^^ (x14 r)) ^^^ (x14 t)) ^^^ ((((x11 p) ^^^ (x11 (x2 q))) ^^^ (x11 (x3 r))) ^^^ (x11 t))) ^^^ ((((x13 p) ^^^ (x13 q)) ^^^ (x13 (x2 r))) ^^^ (x13 (x3 t)))) ^^^ ((((x9 (x3 p)) ^^^ (x9 q)) ^^^ (x9 r)) ^^^ (x9 (x2 t)))) = (((((((x14 (x2 p)) ^^^ (x11 p)) ^^^ (x13 p)) ^^^ (x9 (x3 p))) ^^^ ((((x14 (x3 q)) ^^^ (x11 (x2 q))) ^^^ (x13 q)) ^^^ (x9 q))) ^^^ ((((x14 r) ^^^ (x11 (x3 r))) ^^^ (x13 (x2 r))) ^^^ (x9 r))) ^^^ ((((x14 t) ^^^ (x11 t)) ^^^ (x13 (x3 t))) ^^^ (x9 (x2 t)))) := by ac_rfl
 rw [e]
 have h0 : ((((x14 (x2 p)) ^^^ (x11 p)) ^^^ (x13 p)) ^^^ (x9 (x3 p))) = p := (by decide +kernel : ∀ p : Fin 256, ((((x14 (x2 p.1)) ^^^ (x11 p.1)) ^^^ (x13 p.1)) ^^^ (x9 (x3 p.1))) = p.1) ⟨p, hp⟩
 have h1 : ((((x14 (x3 q)) ^^^ (x11 (x2 q))) ^^^ (x13 q)) ^^^ (x9 q)) = 0 := (by decide +kernel : ∀ q : Fin 256, ((((x14 (x3 q.1)) ^^^ (x11 (x2 q.1))) ^^^ (x13 q.1)) ^^^ (x9 q.1)) = 0) ⟨q, hq⟩
 have h2 : ((((x14 r) ^^^ (x11 (x3 r))) ^^^ (x13 (x2 r))) ^^^ (x9 r)) = 0 := (by decide +kernel : ∀ r : Fin 256, ((((x14 r.1) ^^^ (x11 (x3 r.1))) ^^^ (x13 (x2 r.1))) ^^^ (x9 r.1)) = 0) ⟨r, hr⟩
 have h3 : ((((x14 t) ^^^ (x11 t)) ^^^ (x13 (x3 t))) ^^^ (x9 (x2 t))) = 0 := (by decide +kernel : ∀ t : Fin 256, ((((x14 t.1) ^^^ (x11 t.1)) ^^^ (x13 (x3 t.1))) ^^^ (x9 (x2 t.1))) = 0) ⟨t, ht⟩
 rw [h0, h1, h2, h3]
 simp
theorem unm_mc1 (p q r t : Nat) (hp : p < 256) (hq : q < 256) (hr : r < 256) (ht : t < 256) : ((((x9 ((((x2 p) ^^^ (x3 q)) ^^^ r) ^^^ t)) ^^^ (x14 (((p ^^^ (x2 q)) ^^^ (x3 r)) ^^^ t))) ^^^ (x11 (((p ^^^ q) ^^^ (x2 r)) ^^^ (x3 t)))) ^^^ (x13 ((((x3 p) ^^^ q) ^^^ r) ^^^ (x2 t)))) = q := by
 rw [x9_add4 (xl2 hp) (xl3 hq) hr ht, x14_add4 hp (xl2 hq) (xl3 hr) ht, x11_add4 hp hq (xl2 hr) (xl3 ht), x13_add4 (xl3 hp) hq hr (xl2 ht)]
 have e : (((((((x9 (x2 p)) ^^^ (x9 (x3 q))) ^^^ (x9 r)) ^^^ (x9 t)) ^^^ ((((x14 p) ^^^ (x14 (x2 q))) ^^^ (x14 (x3 r))) ^^^ (x14 t))) ^^^ ((((x11 p) ^^^ (x11 q)) ^^^ (x11 (x2 r))) ^^^ (x11 (x3 t)))) ^^^ ((((x13 (x3 p)) ^^^ (x13 q)) ^^^ (x13 r)) ^^^ (x13 (x2 t)))) = (((((((x9 (x2 p)) ^^^ (x14 p)) ^^^ (x11 p)) ^^^ (x13 (x3 p))) ^^^ ((((x9 (x3 q)) ^^^ (x14 (x2 q))) ^^^ (x11 q)) ^^^ (x13 q))) ^^^ ((((x9 r) ^^^ (x14 (x3 r))) ^^^ (x11 (x2 r))) ^^^ (x13 r))) ^^^ ((((x9 t) ^^^ (x14 t)) ^^^ (x11 (x3 t))) ^^^ (x13 (x2 t)))) := by ac_rfl
 rw [e]
 have h0 : ((((x9 (x2 p)) ^^^ (x14 p)) ^^^ (x11 p)) ^^^ (x13 (x3 p))) = 0 := (by decide +kernel : ∀ p : Fin 256, ((((x9 (x2 p.1)) ^^^ (x14 p.1)) ^^^ (x11 p.1)) ^^^ (x13 (x3 p.1))) = 0) ⟨p, hp⟩
 have h1 : ((((x9 (x3 q)) ^^^ (x14 (x2 q))) ^^^ (x11 q)) ^^^ (x13 q)) = q := (by decide +kernel : ∀ q : Fin 256, ((((x9 (x3 q.1)) ^^^ (x14 (x2 q.1))) ^^^ (x11 q.1)) ^^^ (x13 q.1)) = q.1) ⟨q, hq⟩
 have h2 : ((((x9 r) ^^^ (x14 (x3 r))) ^^^ (x11 (x2 r))) ^^^ (x13 r)) = 0 := (by decide +kernel : ∀ r : Fin 256, ((((x9 r.1) ^^^ (x14 (x3 r.1))) ^^^ (x11 (x2 r.1))) ^^^ (x13 r.1)) = 0) ⟨r, hr⟩
 have h3 : ((((x9 t) ^^^ (x14 t)) ^^^ (x11 (x3 t))) ^^^ (x13 (x2 t))) = 0 := (by decide +kernel : ∀ t : Fin 256, ((((x9 t.1) ^^^ (x14 t.1)) ^^^ (x11 (x3 t.1))) ^^^ (x13 (x2 t.1))) = 0) ⟨t, ht⟩
 rw [h0, h1, h2, h3]
 simp
theorem unm_mc2 (p q r t : Nat) (hp : p < 256) (hq : q < 256) (hr : r < 256) (ht : t < 256) : ((((x13 ((((x2 p) ^^^ (x3 q)) ^^^ r) ^^^ t)) ^^^ (x9 (((p ^^^ (x2 q)) ^^^ (x3 r)) ^^^ t))) ^^^ (x14 (((p ^^^ q) ^^^ (x2 r)) ^^^ (x3 t)))) ^^^ (x11 ((((x3 p) ^^^ q) ^^^ r) ^^^ (x2 t)))) = r := by
 rw [x13_add4 (xl2 hp) (xl3 hq) hr ht, x9_add4 hp (xl2 hq) (xl3 hr) ht, x14_add4 hp hq (xl2 hr) (xl3 ht), x11_add4 (xl3 hp) hq hr (xl2 ht)]
 have e : (((((((x13 (x2 p)) ^^^ (x13 (x3 q))) ^^^ (x13 r)) ^^^ (x13 t)) ^^^ ((((x9 p) ^^^ (x9 (x2 q))) ^^^ (x9 (x3 r))) ^^^ (x9 t))) ^^^ ((((x14 p) ^^^ (x14 q)) ^^^ (x14 (x2 r))) ^^^ (x14 (x3 t)))) ^^^ ((((x11 (x3 p)) ^^^ (x11 q)) ^^^ (x11 r)) ^^^ (x11 (x2 t)))) = (((((((x13 (x2 p)) ^^^ (x9 p)) ^^^ (x14 p)) ^^^ (x11 (x3 p))) ^^^ ((((x13 (x3 q)) ^^^ (x9 (x2 q))) ^^^ (x14 q)) ^^^ (x11 q))) ^^^ ((((x13 r) ^^^ (x9 (x3 r))) ^^^ (x14 (x2 r))) ^^^ (x11 r))) ^^^ ((((x13 t) ^^^ (x9 t)) ^^^ (x14 (x3 t))) ^^^ (x11 (x2 t)))) := by ac_rfl
 rw [e]
 have h0 : ((((x13 (x2 p)) ^^^ (x9 p)) ^^^ (x14 p)) ^^^ (x11 (x3 p))) = 0 := (by decide +kernel : ∀ p : Fin 256, ((((x13 (x2 p.1)) ^^^ (x9 p.1)) ^^^ (x14 p.1)) ^^^ (x11 (x3 p.1))) = 0) ⟨p, hp⟩
 have h1 : ((((x13 (x3 q)) ^^^ (x9 (x2 q))) ^^^ (x14 q)) ^^^ (x11 q)) = 0 := (by decide +kernel : ∀ q : Fin 256, ((((x13 (x3 q.1)) ^^^ (x9 (x2 q.1))) ^^^ (x14 q.1)) ^^^ (x11 q.1)) = 0) ⟨q, hq⟩
 have h2 : ((((x13 r) ^^^ (x9 (x3 r))) ^^^ (x14 (x2 r))) ^^^ (x11 r)) = r := (by decide +kernel : ∀ r : Fin 256, ((((x13 r.1) ^^^ (x9 (x3 r.1))) ^^^ (x14 (x2 r.1))) ^^^ (x11 r.1)) = r.1) ⟨r, hr⟩
 have h3 : ((((x13 t) ^^^ (x9 t)) ^^^ (x14 (x3 t))) ^^^ (x11 (x2 t))) = 0 := (by decide +kernel : ∀ t : Fin 256, ((((x13 t.1) ^^^ (x9 t.1)) ^^^ (x14 (x3 t.1))) ^^^ (x11 (x2 t.1))) = 0) ⟨t, ht⟩
 rw [h0, h1, h2, h3]
 simp
theorem unm_mc3 (p q r t : Nat) (hp : p < 256) (hq : q < 256) (hr : r < 256) (ht : t < 256) : ((((x11 ((((x2 p) ^^^ (x3 q)) ^^^ r) ^^^ t)) ^^^ (x13 (((p ^^^ (x2 q)) ^^^ (x3 r)) ^^^ t))) ^^^ (x9 (((p ^^^ q) ^^^ (x2 r)) ^^^ (x3 t)))) ^^^ (x14 ((((x3 p) ^^^ q) ^^^ r) ^^^ (x2 t)))) = t := by
 rw [x11_add4 (xl2 hp) (xl3 hq) hr ht, x13_add4 hp (xl2 hq) (xl3 hr) ht, x9_add4 hp hq (xl2 hr) (xl3 ht), x14_add4 (xl3 hp) hq hr (xl2 ht)]
 have e : (((((((x11 (x2 p)) ^^^ (x11 (x3 q))) ^^^ (x11 r)) ^^^ (x11 t)) ^^^ ((((x13 p) ^^^ (x13 (x2 q))) ^^^ (x13 (x3 r))) ^^^ (x13 t))) ^^^ ((((x9 p) ^^^ (x9 q)) ^^^ (x9 (x2 r))) ^^^ (x9 (x3 t)))) ^^^ ((((x14 (x3 p)) ^^^ (x14 q)) ^^^ (x14 r)) ^^^ (x14 (x2 t)))) = (((((((x11 (x2 p)) ^^^ (x13 p)) ^^^ (x9 p)) ^^^ (x14 (x3 p))) ^^^ ((((x11 (x3 q)) ^^^ (x13 (x2 q))) ^^^ (x9 q)) ^^^ (x14 q))) ^^^ ((((x11 r) ^^^ (x13 (x3 r))) ^^^ (x9 (x2 r))) ^^^ (x14 r))) ^^^ ((((x11 t) ^^^ (x13 t)) ^^^ (x9 (x3 t))) ^^^ (x14 (x2 t)))) := by ac_rfl
 rw [e]
 have h0 : ((((x11 (x2 p)) ^^^ (x13 p)) ^^^ (x9 p)) ^^^ (x14 (x3 p))) = 0 := (by decide +kernel : ∀ p : Fin 256, ((((x11 (x2 p.1)) ^^^ (x13 p.1)) ^^^ (x9 p.1)) ^^^ (x14 (x3 p.1))) = 0) ⟨p, hp⟩
 have h1 : ((((x11 (x3 q)) ^^^ (x13 (x2 q))) ^^^ (x9 q)) ^^^ (x14 q)) = 0 := (by decide +kernel : ∀ q : Fin 256, ((((x11 (x3 q.1)) ^^^ (x13 (x2 q.1))) ^^^ (x9 q.1)) ^^^ (x14 q.1)) = 0) ⟨q, hq⟩
 have h2 : ((((x11 r) ^^^ (x13 (x3 r))) ^^^ (x9 (x2 r))) ^^^ (x14 r)) = 0 := (by decide +kernel : ∀ r : Fin 256, ((((x11 r.1) ^^^ (x13 (x3 r.1))) ^^^ (x9 (x2 r.1))) ^^^ (x14 r.1)) = 0) ⟨r, hr⟩
 have h3 : ((((x11 t) ^^^ (x13 t)) ^^^ (x9 (x3 t))) ^^^ (x14 (x2 t))) = t := (by decide +kernel : ∀ t : Fin 256, ((((x11 t.1) ^^^ (x13 t.1)) ^^^ (x9 (x3 t.1))) ^^^ (x14 (x2 t.1))) = t.1) ⟨t, ht⟩
 rw [h0, h1, h2, h3]
 simp
theorem mc_unm0 (p q r t : Nat) (hp : p < 256) (hq : q < 256) (hr : r < 256) (ht : t < 256) : ((((x2 ((((x14 p) ^^^ (x11 q)) ^^^ (x13 r)) ^^^ (x9 t))) ^^^ (x3 ((((x9 p) ^^^ (x14 q)) ^^^ (x11 r)) ^^^ (x13 t)))) ^^^ ((((x13 p) ^^^ (x9 q)) ^^^ (x14 r)) ^^^ (x11 t))) ^^^ ((((x11 p) ^^^ (x13 q)) ^^^ (x9 r)) ^^^ (x14 t))) = p := by
 rw [x2_add4 (xl14 hp) (xl11 hq) (xl13 hr) (xl9 ht), x3_add4 (xl9 hp) (xl14 hq) (xl11 hr) (xl13 ht)]
 have e : (((((((x2 (x14 p)) ^^^ (x2 (x11 q))) ^^^ (x2 (x13 r))) ^^^ (x2 (x9 t))) ^^^ ((((x3 (x9 p)) ^^^ (x3 (x14 q))) ^^^ (x3 (x11 r))) ^^^ (x3 (x13 t)))) ^^^ ((((x13 p) ^^^ (x9 q)) ^^^ (x14 r)) ^^^ (x11 t))) ^^^ ((((x11 p) ^^^ (x13 q)) ^^^ (x9 r)) ^^^ (x14 t))) = (((((((x2 (x14 p)) ^^^ (x3 (x9 p))) ^^^ (x13 p)) ^^^ (x11 p)) ^^^ ((((x2 (x11 q)) ^^^ (x3 (x14 q))) ^^^ (x9 q)) ^^^ (x13 q))) ^^^ ((((x2 (x13 r)) ^^^ (x3 (x11 r))) ^^^ (x14 r)) ^^^ (x9 r))) ^^^ ((((x2 (x9 t)) ^^^ (x3 (x13 t))) ^^^ (x11 t)) ^^^ (x14 t))) := by ac_rfl
 rw [e]
 have h0 : ((((x2 (x14 p)) ^^^ (x3 (x9 p))) ^^^ (x13 p)) ^^^ (x11 p)) = p := (by decide +kernel : ∀ p : Fin 256, ((((x2 (x14 p.1)) ^^^ (x3 (x9 p.1))) ^^^ (x13 p.1)) ^^^ (x11 p.1)) = p.1) ⟨p, hp⟩
 have h1 : ((((x2 (x11 q)) ^^^ (x3 (x14 q))) ^^^ (x9 q)) ^^^ (x13 q)) = 0 := (by decide +kernel : ∀ q : Fin 256, ((((x2 (x11 q.1)) ^^^ (x3 (x14 q.1))) ^^^ (x9 q.1)) ^^^ (x13 q.1)) = 0) ⟨q, hq⟩
 have h2 : ((((x2 (x13 r)) ^^^ (x3 (x11 r))) ^^^ (x14 r)) ^^^ (x9 r)) = 0 := (by decide +kernel : ∀ r : Fin 256, ((((x2 (x13 r.1)) ^^^ (x3 (x11 r.1))) ^^^ (x14 r.1)) ^^^ (x9 r.1)) = 0) ⟨r, hr⟩
 have h3 : ((((x2 (x9 t)) ^^^ (x3 (x13 t))) ^^^ (x11 t)) ^^^ (x14 t)) = 0 := (by decide +kernel : ∀ t : Fin 256, ((((x2 (x9 t.1)) ^^^ (x3 (x13 t.1))) ^^^ (x11 t.1)) ^^^ (x14 t.1)) = 0) ⟨t, ht⟩
 rw [h0, h1, h2, h3]
 simp
theorem mc_unm1 (p q r t : Nat) (hp : p < 256) (hq : q < 256) (hr : r < 256) (ht : t < 256) : (((((((x14 p) ^^^ (x11 q)) ^^^ (x13 r)) ^^^ (x9 t)) ^^^ (x2 ((((x9 p) ^^^ (x14 q)) ^^^ (x11 r)) ^^^ (x13 t)))) ^^^ (x3 ((((x13 p) ^^^ (x9 q)) ^^^ (x14 r)) ^^^ (x11 t)))) ^^^ ((((x11 p) ^^^ (x13 q)) ^^^ (x9 r)) ^^^ (x14 t))) = q := by
 rw [x2_add4 (xl9 hp) (xl14 hq) (xl11 hr) (xl13 ht), x3_add4 (xl13 hp) (xl9 hq) (xl14 hr) (xl11 ht)]
 have e : (((((((x14 p) ^^^ (x11 q)) ^^^ (x13 r)) ^^^ (x9 t)) ^^^ ((((x2 (x9 p)) ^^^ (x2 (x14 q))) ^^^ (x2 (x11 r))) ^^^ (x2 (x13 t)))) ^^^ ((((x3 (x13 p)) ^^^ (x3 (x9 q))) ^^^ (x3 (x14 r))) ^^^ (x3 (x11 t)))) ^^^ ((((x11 p) ^^^ (x13 q)) ^^^ (x9 r)) ^^^ (x14 t))) = (((((((x14 p) ^^^ (x2 (x9 p))) ^^^ (x3 (x13 p))) ^^^ (x11 p)) ^^^ ((((x11 q) ^^^ (x2 (x14 q))) ^^^ (x3 (x9 q))) ^^^ (x13 q))) ^^^ ((((x13 r) ^^^ (x2 (x11 r))) ^^^ (x3 (x14 r))) ^^^ (x9 r))) ^^^ ((((x9 t) ^^^ (x2 (x13 t))) ^^^ (x3 (x11 t))) ^^^ (x14 t))) := by ac_rfl
 rw [e]
 have h0 : ((((x14 p) ^^^ (x2 (x9 p))) ^^^ (x3 (x13 p))) ^^^ (x11 p)) = 0 := (by decide +kernel : ∀ p : Fin 256, ((((x14 p.1) ^^^ (x2 (x9 p.1))) ^^^ (x3 (x13 p.1))) ^^^ (x11 p.1)) = 0) ⟨p, hp⟩
 have h1 : ((((x11 q) ^^^ (x2 (x14 q))) ^^^ (x3 (x9 q))) ^^^ (x13 q)) = q := (by decide +kernel : ∀ q : Fin 256, ((((x11 q.1) ^^^ (x2 (x14 q.1))) ^^^ (x3 (x9 q.1))) ^^^ (x13 q.1)) = q.1) ⟨q, hq⟩
 have h2 : ((((x13 r) ^^^ (x2 (x11 r))) ^^^ (x3 (x14 r))) ^^^ (x9 r)) = 0 := (by decide +kernel : ∀ r : Fin 256, ((((x13 r.1) ^^^ (x2 (x11 r.1))) ^^^ (x3 (x14 r.1))) ^^^ (x9 r.1)) = 0) ⟨r, hr⟩
 have h3 : ((((x9 t) ^^^ (x2 (x13 t))) ^^^ (x3 (x11 t))) ^^^ (x14 t)) = 0 := (by decide +kernel : ∀ t : Fin 256, ((((x9 t.1) ^^^ (x2 (x13 t.1))) ^^^ (x3 (x11 t.1))) ^^^ (x14 t.1)) = 0) ⟨t, ht⟩
 rw [h0, h1, h2, h3]
 simp
theorem mc_unm2 (p q r t : Nat) (hp : p < 256) (hq : q < 256) (hr : r < 256) (ht : t < 256) : (((((((x14 p) ^^^ (x11 q)) ^^^ (x13 r)) ^^^ (x9 t)) ^^^ ((((x9 p) ^^^ (x14 q)) ^^^ (x11 r)) ^^^ (x13 t))) ^^^ (x2 ((((x13 p) ^^^ (x9 q)) ^^^ (x14 r)) ^^^ (x11 t)))) ^^^ (x3 ((((x11 p) ^^^ (x13 q)) ^^^ (x9 r)) ^^^ (x14 t)))) = r := by
 rw [x2_add4 (xl13 hp) (xl9 hq) (xl14 hr) (xl11 ht), x3_add4 (xl11 hp) (xl13 hq) (xl9 hr) (xl14 ht)]
 have e : (((((((x14 p) ^^^ (x11 q)) ^^^ (x13 r)) ^^^ (x9 t)) ^^^ ((((x9 p) ^^^ (x14 q)) ^^^ (x11 r)) ^^^ (x13 t))) ^^^ ((((x2 (x13 p)) ^^^ (x2 (x9 q))) ^^^ (x2 (x14 r))) ^^^ (x2 (x11 t)))) ^^^ ((((x3 (x11 p)) ^^^ (x3 (x13 q))) ^^^ (x3 (x9 r))) ^^^ (x3 (x14 t)))) = (((((((x14 p) ^^^ (x9 p)) ^^^ (x2 (x13 p))) ^^^ (x3 (x11 p))) ^^^ ((((x11 q) ^^^ (x14 q)) ^^^ (x2 (x9 q))) ^^^ (x3 (x13 q)))) ^^^ ((((x13 r) ^^^ (x11 r)) ^^^ (x2 (x14 r))) ^^^ (x3 (x9 r)))) ^^^ ((((x9 t) ^^^ (x13 t)) ^^^ (x2 (x11 t))) ^^^ (x3 (x14 t)))) := by ac_rfl
 rw [e]
 have h0 : ((((x14 p) ^^^ (x9 p)) ^^^ (x2 (x13 p))) ^^^ (x3 (x11 p))) = 0 := (by decide +kernel : ∀ p : Fin 256, ((((x14 p.1) ^^^ (x9 p.1)) ^^^ (x2 (x13 p.1))) ^^^ (x3 (x11 p.1))) = 0) ⟨p, hp⟩
 have h1 : ((((x11 q) ^^^ (x14 q)) ^^^ (x2 (x9 q))) ^^^ (x3 (x13 q))) = 0 := (by decide +kernel : ∀ q : Fin 256, ((((x11 q.1) ^^^ (x14 q.1)) ^^^ (x2 (x9 q.1))) ^^^ (x3 (x13 q.1))) = 0) ⟨q, hq⟩
 have h2 : ((((x13 r) ^^^ (x11 r)) ^^^ (x2 (x14 r))) ^^^ (x3 (x9 r))) = r := (by decide +kernel : ∀ r : Fin 256, ((((x13 r.1) ^^^ (x11 r.1)) ^^^ (x2 (x14 r.1))) ^^^ (x3 (x9 r.1))) = r.1) ⟨r, hr⟩
 have h3 : ((((x9 t) ^^^ (x13 t)) ^^^ (x2 (x11 t))) ^^^ (x3 (x14 t))) = 0 := (by decide +kernel : ∀ t : Fin 256, ((((x9 t.1) ^^^ (x13 t.1)) ^^^ (x2 (x11 t.1))) ^^^ (x3 (x14 t.1))) = 0) ⟨t, ht⟩
 rw [h0, h1, h2, h3]
 simp
theorem mc_unm3 (p q r t : Nat) (hp : p < 256) (hq : q < 256) (hr : r < 256) (ht : t < 256) : ((((x3 ((((x14 p) ^^^ (x11 q)) ^^^ (x13 r)) ^^^ (x9 t))) ^^^ ((((x9 p) ^^^ (x14 q)) ^^^ (x11 r)) ^^^ (x13 t))) ^^^ ((((x13 p) ^^^ (x9 q)) ^^^ (x14 r)) ^^^ (x11 t))) ^^^ (x2 ((((x11 p) ^^^ (x13 q)) ^^^ (x9 r)) ^^^ (x14 t)))) = t := by
 rw [x3_add4 (xl14 hp) (xl11 hq) (xl13 hr) (xl9 ht), x2_add4 (xl11 hp) (xl13 hq) (xl9 hr) (xl14 ht)]
 have e : (((((((x3 (x14 p)) ^^^ (x3 (x11 q))) ^^^ (x3 (x13 r))) ^^^ (x3 (x9 t))) ^^^ ((((x9 p) ^^^ (x14 q)) ^^^ (x11 r)) ^^^ (x13 t))) ^^^ ((((x13 p) ^^^ (x9 q)) ^^^ (x14 r)) ^^^ (x11 t))) ^^^ ((((x2 (x11 p)) ^^^ (x2 (x13 q))) ^^^ (x2 (x9 r))) ^^^ (x2 (x14 t)))) = (((((((x3 (x14 p)) ^^^ (x9 p)) ^^^ (x13 p)) ^^^ (x2 (x11 p))) ^^^ ((((x3 (x11 q)) ^^^ (x14 q)) ^^^ (x9 q)) ^^^ (x2 (x13 q)))) ^^^ ((((x3 (x13 r)) ^^^ (x11 r)) ^^^ (x14 r)) ^^^ (x2 (x9 r)))) ^^^ ((((x3 (x9 t)) ^^^ (x13 t)) ^^^ (x11 t)) ^^^ (x2 (x14 t)))) := by ac_rfl
 rw [e]
 have h0 : ((((x3 (x14 p)) ^^^ (x9 p)) ^^^ (x13 p)) ^^^ (x2 (x11 p))) = 0 := (by decide +kernel : ∀ p : Fin 256, ((((x3 (x14 p.1)) ^^^ (x9 p.1)) ^^^ (x13 p.1)) ^^^ (x2 (x11 p.1))) = 0) ⟨p, hp⟩
 have h1 : ((((x3 (x11 q)) ^^^ (x14 q)) ^^^ (x9 q)) ^^^ (x2 (x13 q))) = 0 := (by decide +kernel : ∀ q : Fin 256, ((((x3 (x11 q.1)) ^^^ (x14 q.1)) ^^^ (x9 q.1)) ^^^ (x2 (x13 q.1))) = 0) ⟨q, hq⟩
 have h2 : ((((x3 (x13 r)) ^^^ (x11 r)) ^^^ (x14 r)) ^^^ (x2 (x9 r))) = 0 := (by decide +kernel : ∀ r : Fin 256, ((((x3 (x13 r.1)) ^^^ (x11 r.1)) ^^^ (x14 r.1)) ^^^ (x2 (x9 r.1))) = 0) ⟨r, hr⟩
 have h3 : ((((x3 (x9 t)) ^^^ (x13 t)) ^^^ (x11 t)) ^^^ (x2 (x14 t))) = t := (by decide +kernel : ∀ t : Fin 256, ((((x3 (x9 t.1)) ^^^ (x13 t.1)) ^^^ (x11 t.1)) ^^^ (x2 (x14 t.1))) = t.1) ⟨t, ht⟩
 rw [h0, h1, h2, h3]
 simp
theorem mcw_bt (x : Nat) : bt0 (mcw x) = ((x2 (bt0 x) ^^^ x3 (bt1 x)) ^^^ bt2 x) ^^^ bt3 x ∧ bt1 (mcw x) = ((bt0 x ^^^ x2 (bt1 x)) ^^^ x3 (bt2 x)) ^^^ bt3 x ∧ bt2 (mcw x) = ((bt0 x ^^^ bt1 x) ^^^ x2 (bt2 x)) ^^^ x3 (bt3 x) ∧ bt3 (mcw x) = ((x3 (bt0 x) ^^^ bt1 x) ^^^ bt2 x) ^^^ x2 (bt3 x) :=
 bt_wd (xor_lt8 (xor_lt8 (xor_lt8 (xl2 (bt0_lt x)) (xl3 (bt1_lt x))) (bt2_lt x)) (bt3_lt x)) (xor_lt8 (xor_lt8 (xor_lt8 (bt0_lt x) (xl2 (bt1_lt x))) (xl3 (bt2_lt x))) (bt3_lt x)) (xor_lt8 (xor_lt8 (xor_lt8 (bt0_lt x) (bt1_lt x)) (xl2 (bt2_lt x))) (xl3 (bt3_lt x))) (xor_lt8 (xor_lt8 (xor_lt8 (xl3 (bt0_lt x)) (bt1_lt x)) (bt2_lt x)) (xl2 (bt3_lt x)))
theorem unmw_bt (x : Nat) : bt0 (unmw x) = ((x14 (bt0 x) ^^^ x11 (bt1 x)) ^^^ x13 (bt2 x)) ^^^ x9 (bt3 x) ∧ bt1 (unmw x) = ((x9 (bt0 x) ^^^ x14 (bt1 x)) ^^^ x11 (bt2 x)) ^^^ x13 (bt3 x) ∧ bt2 (unmw x) = ((x13 (bt0 x) ^^^ x9 (bt1 x)) ^^^ x14 (bt2 x)) ^^^ x11 (bt3 x) ∧ bt3 (unmw x) = ((x11 (bt0 x) ^^^ x13 (bt1 x)) ^^^ x9 (bt2 x)) ^^^ x14 (bt3 x) := by
 unfold unmw
 rw [unm_wd _ _ _ _ (bt0_lt x) (bt1_lt x) (bt2_lt x) (bt3_lt x)]
 have a := bt0_lt x
 have b := bt1_lt x
 have c := bt2_lt x
 have d := bt3_lt x
 exact bt_wd (xor_lt8 (xor_lt8 (xor_lt8 (xl14 a) (xl11 b)) (xl13 c)) (xl9 d)) (xor_lt8 (xor_lt8 (xor_lt8 (xl9 a) (xl14 b)) (xl11 c)) (xl13 d)) (xor_lt8 (xor_lt8 (xor_lt8 (xl13 a) (xl9 b)) (xl14 c)) (xl11 d)) (xor_lt8 (xor_lt8 (xor_lt8 (xl11 a) (xl13 b)) (xl9 c)) (xl14 d))
theorem unmw_mcw {x : Nat} (h : x < 4294967296) : unmw (mcw x) = x := by
 obtain ⟨e0, e1, e2, e3⟩ := mcw_bt x
 have a := bt0_lt x
 have b := bt1_lt x
 have c := bt2_lt x
 have d := bt3_lt x
 have hm := wd_bt (unmw_lt (mcw x))
 obtain ⟨u0, u1, u2, u3⟩ := unmw_bt (mcw x)
 rw [u0, u1, u2, u3, e0, e1, e2, e3, unm_mc0 _ _ _ _ a b c d, unm_mc1 _ _ _ _ a b c d, unm_mc2 _ _ _ _ a b c d, unm_mc3 _ _ _ _ a b c d, wd_bt h] at hm
 exact hm.symm
theorem mcw_lt (x : Nat) : mcw x < 4294967296 := by
 have a := bt0_lt x
 have b := bt1_lt x
 have c := bt2_lt x
 have d := bt3_lt x
 exact wd_lt (xor_lt8 (xor_lt8 (xor_lt8 (xl2 a) (xl3 b)) c) d) (xor_lt8 (xor_lt8 (xor_lt8 a (xl2 b)) (xl3 c)) d) (xor_lt8 (xor_lt8 (xor_lt8 a b) (xl2 c)) (xl3 d)) (xor_lt8 (xor_lt8 (xor_lt8 (xl3 a) b) c) (xl2 d))
theorem mcw_unmw {x : Nat} (h : x < 4294967296) : mcw (unmw x) = x := by
 obtain ⟨e0, e1, e2, e3⟩ := unmw_bt x
 have a := bt0_lt x
 have b := bt1_lt x
 have c := bt2_lt x
 have d := bt3_lt x
 have hm := wd_bt (mcw_lt (unmw x))
 obtain ⟨u0, u1, u2, u3⟩ := mcw_bt (unmw x)
 rw [u0, u1, u2, u3, e0, e1, e2, e3, mc_unm0 _ _ _ _ a b c d, mc_unm1 _ _ _ _ a b c d, mc_unm2 _ _ _ _ a b c d, mc_unm3 _ _ _ _ a b c d, wd_bt h] at hm
 exact hm.symm
theorem mixS_mc (s : W4) : mixS s = mcS (lastS s) := by unfold mixS mcS lastS; simp only [mix_mc]
theorem unmS_mixS (s : W4) : unmS (mixS s) = lastS s := by
 rw [mixS_mc]
 unfold unmS mcS
 obtain ⟨h1, h2, h3, h4⟩ := lastS_ok s
 simp only [unmw_mcw h1, unmw_mcw h2, unmw_mcw h3, unmw_mcw h4]
theorem mcS_unmS (s : W4) (hs : s.ok) : mcS (unmS s) = s := by
 unfold unmS mcS
 obtain ⟨h1, h2, h3, h4⟩ := hs
 simp only [mcw_unmw h1, mcw_unmw h2, mcw_unmw h3, mcw_unmw h4]
theorem itD_iterE {K : Nat → Nat} (hK : ∀ i, K i < 4294967296) (s : W4) (hs : s.ok) (r : Nat) : itD K r (lastS (iterE K r s)) = lastS s := by
 induction r with
 | zero => rw [itD_zero, iterE_zero]
 | succ r ih => rw [itD_succ, stepD, undo_last _ (iterE_ok hK hs _), iterE_succ, addK_addK, unmS_mixS, ih]
/-- Decryption undoes encryption. -/
theorem dec_enc {K : Nat → Nat} (hK : ∀ i, K i < 4294967296) (nr : Nat) (s : W4) (hs : s.ok) : dcW nr K (encW nr K s) = s := by
 rw [dcW, encW, addK_addK, itD_iterE hK _ (addK_ok hK 0 hs), undo_last _ (addK_ok hK 0 hs), addK_addK]
theorem iterE_itD {K : Nat → Nat} (hK : ∀ i, K i < 4294967296) (r : Nat) : ∀ t : W4, t.ok → lastS (iterE K r (undoS (itD K r t))) = t := by
 induction r with
 | zero => intro t ht; rw [itD_zero, iterE_zero]; exact last_undo t ht
 | succ r ih =>
  intro t ht
  have h := ih (stepD K (r + 1) t) (unmS_ok _)
  rw [itD_succ]
  generalize undoS (itD K r (stepD K (r + 1) t)) = y at h ⊢
  rw [iterE_succ, mixS_mc, h, stepD, mcS_unmS _ (addK_ok hK _ (undoS_ok t)), addK_addK, last_undo t ht]
/-- Encryption undoes decryption. -/
theorem enc_dec {K : Nat → Nat} (hK : ∀ i, K i < 4294967296) (nr : Nat) (s : W4) (hs : s.ok) : encW nr K (dcW nr K s) = s := by
 rw [dcW, encW, addK_addK, iterE_itD hK _ _ (addK_ok hK nr hs), addK_addK]
end Go.Proofs.YtgmfiljjogdccabGreatDoor
