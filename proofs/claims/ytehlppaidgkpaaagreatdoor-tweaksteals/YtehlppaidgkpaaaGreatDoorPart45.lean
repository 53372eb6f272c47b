import Derived.Test.YtehlppaidgkpaaaGreatDoorPart44
import Derived.Test.YtehlppaidgkpaaaGreatDoorPart43
import Derived.Test.YtehlppaidgkpaaaGreatDoorFdDot
namespace Go.Proofs.YtehlppaidgkpaaaGreatDoor
open Go.RowKit
set_option linter.unusedVariables false
set_option linter.unusedSimpArgs false
/-- Only key blocks changed, and what is new. -/
structure Gk (Ks : Nat → Prop) (u v : World) : Prop where
  os : v.os = u.os
  tape : v.tape = u.tape
  output : v.output = u.output
  size : u.heap.size ≤ v.heap.size
  block : ∀ c, c < u.heap.size → ¬ Ks c → v.heap[c]? = u.heap[c]?
theorem Gk.trans {Ks : Nat → Prop} {u v x : World} (h : Gk Ks u v) (k : Gk Ks v x) : Gk Ks u x :=
  ⟨k.os.trans h.os, k.tape.trans h.tape, k.output.trans h.output, Nat.le_trans h.size k.size, fun c hc hn => (k.block c (Nat.lt_of_lt_of_le hc h.size) hn).trans (h.block c hc hn)⟩
theorem Gk.of_below {Ks : Nat → Prop} {u v : World} (h : Below u.heap.size u v) : Gk Ks u v := ⟨h.os, h.tape, h.output, h.size, fun c hc _ => h.block c hc⟩
theorem Gk.of_gb {Ks : Nat → Prop} {u v : World} {g : Nat} (h : u.grownBy v (some g)) (hg : Ks g) : Gk Ks u v := ⟨h.os, h.tape, h.output, h.size, fun c hc hn => h.block c hc (fun e => hn (by injection e with e; rw [e]; exact hg))⟩
theorem Gk.below {Ks : Nat → Prop} {u v x : World} (h : Gk Ks u v) (hb : Below v.heap.size v x) : Gk Ks u x := h.trans (Gk.of_below hb)
/-- A change of a block that was not there. -/
theorem Gk.gb {Ks : Nat → Prop} {u v x : World} {g : Nat} (h : Gk Ks u v) (hb : v.grownBy x (some g)) (hg : u.heap.size ≤ g) : Gk Ks u x :=
  ⟨hb.os.trans h.os, hb.tape.trans h.tape, hb.output.trans h.output, Nat.le_trans h.size hb.size, fun c hc hn => (hb.block c (Nat.lt_of_lt_of_le hc h.size) (fun e => by injection e with e; omega)).trans (h.block c hc hn)⟩
theorem Gk.cell {Ks : Nat → Prop} {u v : World} (h : Gk Ks u v) {b o : Nat} {x : Value} (hb : ¬ Ks b) (hx : u.cell? ⟨b, o, none⟩ = some x) : v.cell? ⟨b, o, none⟩ = some x := by
  rw [World.cell?_of_block (a := ⟨b, o, none⟩) (h.block b (World.block_lt_of_cell? u _ hx) hb)]; exact hx
theorem Bx.gk {Ks : Nat → Prop} {u v : World} {b : Nat} {t : TypeId} {cs : List Value} (h : Bx u b t cs) (hg : Gk Ks u v) (hb : ¬ Ks b) : Bx v b t cs := h.keep (hg.block b h.lt hb)
theorem Kp.of_gk {Ks : Nat → Prop} {B : Nat} {u v : World} (h : Gk Ks u v) (hK : ∀ c, Ks c → c < B) : Kp B u v := ⟨h.os, h.tape, h.output, h.size, fun c hc hl => h.block c hl (fun e => by have := hK c e; omega)⟩
/-- A cipher's state: it lies below B, its keys' blocks are Ks. -/
structure Cst (B : Nat) (Ks : Nat → Prop) (I : World → Prop) : Prop where
  low : ∀ c, Ks c → c < B
  size : ∀ u, I u → B ≤ u.heap.size
  stay : ∀ u v, I u → (∀ c, c < B → v.heap[c]? = u.heap[c]?) → u.heap.size ≤ v.heap.size → I v
theorem Cst.below {B : Nat} {Ks : Nat → Prop} {I : World → Prop} (h : Cst B Ks I) {u v : World} (hu : I u) (hb : Below u.heap.size u v) : I v := h.stay u v hu (fun c hc => hb.block c (Nat.lt_of_lt_of_le hc (h.size u hu))) hb.size
theorem Cst.gb {B : Nat} {Ks : Nat → Prop} {I : World → Prop} (h : Cst B Ks I) {u v : World} {g : Nat} (hu : I u) (hb : u.grownBy v (some g)) (hg : B ≤ g) : I v := h.stay u v hu (fun c hc => hb.block c (Nat.lt_of_lt_of_le hc (h.size u hu)) (fun e => by injection e with e; omega)) hb.size
theorem Cst.new {B : Nat} {Ks : Nat → Prop} {I : World → Prop} (h : Cst B Ks I) {c : Nat} (hc : B ≤ c) : ¬ Ks c := fun e => by have := h.low c e; omega
/-- What a function does with a block. -/
def DoI (Ks : Nat → Prop) (I : World → Prop) (fn : Nat) (pre : Value) (E : BitVec 128 → BitVec 128) : Prop := ∀ v u, I u → Calls Tryz.prog fn #[pre, Fd.BV v] u fun e w' => Hid (e = .returned (Fd.BV (E v)) ∧ I w' ∧ Gk Ks u w')
end Go.Proofs.YtehlppaidgkpaaaGreatDoor
namespace Go.Proofs.YtehlppaidgkpaaaGreatDoor
open Go.RowKit
set_option linter.unusedVariables false
set_option linter.unusedSimpArgs false
/-- What masked's closure reads: the function, the masks; the cipher stands. -/
structure MkX (Ks : Nat → Prop) (I : World → Prop) (fn sh p q r o n c : Nat) (f : Nat → BitVec 128) (u : World) : Prop where
  inv : I u
  cp : u.cell? ⟨p, 0, none⟩ = some (.func (.func fn) #[.pointer (some ⟨sh, 0, none⟩)] #[])
  cq : u.cell? ⟨q, 0, none⟩ = some (.slice (some ⟨r, o, none⟩) n c)
  rg : ∀ j, j < n → u.rangeAt r (o + j * 16) (Fd.BL (f j))
  n2 : ¬ Ks p
  n3 : ¬ Ks q
  n4 : ¬ Ks r
theorem MkX.grown {Ks : Nat → Prop} {I : World → Prop} {fn sh p q r o n c : Nat} {f : Nat → BitVec 128} {u u' : World} (h : MkX Ks I fn sh p q r o n c f u) (hk : Gk Ks u u') (hi : I u') : MkX Ks I fn sh p q r o n c f u' :=
  ⟨hi, hk.cell h.n2 h.cp, hk.cell h.n3 h.cq, fun j hj i x hx => hk.cell h.n4 (h.rg j hj i x hx), h.n2, h.n3, h.n4⟩
theorem MkX.below {Ks : Nat → Prop} {I : World → Prop} {B fn sh p q r o n c : Nat} {f : Nat → BitVec 128} {u u' : World} (h : MkX Ks I fn sh p q r o n c f u) (hC : Cst B Ks I) (hb : Below u.heap.size u u') : MkX Ks I fn sh p q r o n c f u' := h.grown (Gk.of_below hb) (hC.below h.inv hb)
/-- What the region reads at place j. -/
def MkS (fn p q r o n c j m sh : Nat) (L X : List Value) (u : World) : Prop := u.cell? ⟨p, 0, none⟩ = some (.func (.func fn) #[.pointer (some ⟨sh, 0, none⟩)] #[]) ∧ u.cell? ⟨q, 0, none⟩ = some (.slice (some ⟨r, o, none⟩) n c) ∧ u.rangeAt m 0 L ∧ u.rangeAt r (o + j * 16) X ∧ u.there (m + 1) 0 16
theorem MkX.reads {Ks : Nat → Prop} {I : World → Prop} {fn sh p q r o n c j m : Nat} {f : Nat → BitVec 128} {u : World} {L : List Value} (h : MkX Ks I fn sh p q r o n c f u) (hj : j < n) (h1 : Bx u m 27 L) {Z : List Value} (h2 : Bx u (m + 1) 27 Z) (hZ : Z.length = 16) : MkS fn p q r o n c j m sh L (Fd.BL (f j)) u :=
  ⟨h.cp, h.cq, h1.range, h.rg j hj, bx_there h2 hZ⟩
set_option maxHeartbeats 1600000 in
set_option maxRecDepth 100000 in
theorem maskx_ok {B : Nat} {Ks : Nat → Prop} {I : World → Prop} (hC : Cst B Ks I) (fn sh p q r o n c j : Nat) (hE : ∀ args u, (callFunc fn args).run Tryz.prog u = .ok (.enter fn args) u) (E : BitVec 128 → BitVec 128) (f : Nat → BitVec 128) (v : BitVec 128) (w : World) (HDO : DoI Ks I fn (.pointer (some ⟨sh, 0, none⟩)) E) (h : MkX Ks I fn sh p q r o n c f w) (hj : j < n) (hn : n ≤ c) :
    Calls Tryz.prog 243 #[.int .i64 (j : Nat), Fd.BV v, .pointer (some ⟨p, 0, none⟩), .pointer (some ⟨q, 0, none⟩)] w fun e w' => Hid (e = .returned (Fd.BV (E (v ^^^ f j) ^^^ f j)) ∧ MkX Ks I fn sh p q r o n c f w' ∧ Gk Ks w w') := by
  obtain ⟨L, HL⟩ : ∃ L, Hid (L = Fd.BL v) := ⟨_, rfl⟩
  obtain ⟨X, HX⟩ : ∃ X, Hid (X = Fd.BL (f j)) := ⟨_, rfl⟩
  obtain ⟨L2, HL2⟩ : ∃ X, Hid (X = Fd.BL (v ^^^ f j)) := ⟨_, rfl⟩
  obtain ⟨L3, HL3⟩ : ∃ X, Hid (X = Fd.BL (E (v ^^^ f j))) := ⟨_, rfl⟩
  obtain ⟨L4, HL4⟩ : ∃ X, Hid (X = Fd.BL (E (v ^^^ f j) ^^^ f j)) := ⟨_, rfl⟩
  have HX1 : Hid (∀ u, Calls Tryz.prog 196 #[.agg L.toArray, .agg X.toArray] u fun e w' => Hid (e = .returned (.agg L2.toArray) ∧ Below u.heap.size u w')) := fun u => by
    rw [HL.out, HX.out, HL2.out]; exact (Fd.xor_ok v (f j) u).mono fun e w' hh => hh
  have HX2 : Hid (∀ u, Calls Tryz.prog 196 #[.agg L3.toArray, .agg X.toArray] u fun e w' => Hid (e = .returned (.agg L4.toArray) ∧ Below u.heap.size u w')) := fun u => by
    rw [HL3.out, HX.out, HL4.out]; exact (Fd.xor_ok _ (f j) u).mono fun e w' hh => hh
  have HE : Hid (∀ u, MkX Ks I fn sh p q r o n c f u → Calls Tryz.prog fn #[.pointer (some ⟨sh, 0, none⟩), .agg L2.toArray] u fun e w' => Hid (e = .returned (.agg L3.toArray) ∧ I w' ∧ Gk Ks u w')) := fun u hu => by
    rw [HL2.out, HL3.out]; exact HDO (v ^^^ f j) u hu.inv
  have HLN : Hid (L.length = 16 ∧ X.length = 16 ∧ L4.length = 16 ∧ (∀ x ∈ L4, x.oneCell' = true)) := by rw [HL.out, HX.out, HL4.out]; exact ⟨rfl, rfl, rfl, BL_one8 _⟩
  show Calls Tryz.prog 243 #[_, .agg (Fd.BL v).toArray, _, _] w fun e w' => Hid (e = .returned (.agg (Fd.BL (E (v ^^^ f j) ^^^ f j)).toArray) ∧ _)
  rw [← HL.out, ← HL4.out]
  obtain ⟨w1, hw1⟩ : ∃ w1, w1 = (w.alloc (.cells L.toArray 27)).alloc (.cells ZZ.toArray 27) := ⟨_, rfl⟩
  have HB1 : Hid (Bx w1 w.heap.size 27 L ∧ Bx w1 (w.heap.size + 1) 27 ZZ ∧ Below w.heap.size w w1 ∧ MkX Ks I fn sh p q r o n c f w1 ∧ B ≤ w.heap.size) := by
    have hb : Below w.heap.size w w1 := by rw [hw1]; exact ((Below.refl _ _).alloc (Nat.le_refl _) _).alloc (by simp) _
    refine ⟨?_, ?_, hb, h.below hC hb, hC.size w h.inv⟩
    · rw [hw1]; exact (Bx.new w 27 L).below ((Below.refl _ _).alloc (Nat.le_refl _) _)
    · rw [hw1]; have q := Bx.new (w.alloc (.cells L.toArray 27)) 27 ZZ; simpa using q
  have hw2 : w1 = (w.alloc (.cells L.toArray 27)).alloc (.cells #[.int .u8 0, .int .u8 0, .int .u8 0, .int .u8 0, .int .u8 0, .int .u8 0, .int .u8 0, .int .u8 0, .int .u8 0, .int .u8 0, .int .u8 0, .int .u8 0, .int .u8 0, .int .u8 0, .int .u8 0, .int .u8 0] 27) := hw1
  have HB0 : Hid (MkX Ks I fn sh p q r o n c f w) := h
  clear hw1 h HDO
  go_enter Tryz.func243, Tryz.ntmps243
  go_upto_region 1 with fail
  rw [← hw2]
  clear hw2
  obtain ⟨m, HMM⟩ : ∃ m, Hid (w.heap.size = m) := ⟨_, rfl⟩
  rw [HMM.out] at HB1 ⊢
  have HW1 : Hid (m + 1 < w1.heap.size) := HB1.out.2.1.lt
  have hU : Tryz.prog.underlying 27 = some (.array 16 5) := Tryz.underlying27
  have hiL : (Tryz.prog.info? 27).map (·.size) = some L.length := by rw [HLN.out.1]; kernel_rfl
  have hiX : (Tryz.prog.info? 27).map (·.size) = some X.length := by rw [HLN.out.2.1]; kernel_rfl
  have hi4 : (Tryz.prog.info? 27).map (·.size) = some L4.length := by rw [HLN.out.2.2.1]; kernel_rfl
  have h416 : L4.length = 16 := HLN.out.2.2.1
  have h41 : ∀ v ∈ L4, v.oneCell' = true := HLN.out.2.2.2
  have HJ : Hid (j < n) := hj
  have g0 : (0 : Int) ≤ (j : Int) := by omega
  have g1 : (j : Int) < (n : Int) := by omega
  have HR : Hid (∀ u Z, MkX Ks I fn sh p q r o n c f u → Bx u m 27 L → Bx u (m + 1) 27 Z → Z.length = 16 → MkS fn p q r o n c j m sh L X u) := fun u Z a b d e => by rw [HX.out]; exact a.reads HJ.out b d e
  have hS1 := HR.out w1 ZZ HB1.out.2.2.2.1 HB1.out.1 HB1.out.2.1 rfl
  clear hj hn
  have hS0 : MkS fn p q r o n c j m sh L X w1.drew := by
    obtain ⟨c1, c2, c3, c4, c5⟩ := hS1
    exact ⟨by simpa using c1, by simpa using c2, by simpa using c3, by simpa using c4, by simpa using c5⟩
  refine wp_region_noPanic ?_
  refine Fd.wp_region_till (fun u => MkS fn p q r o n c j m sh L X u) 13 (by kernel_rfl) (by decide) (by decide +kernel) (by decide +kernel) (by decide +kernel) (fun inv => ?_)
  refine Fd.till_at 0 7 (.func (.func fn) #[.pointer (some ⟨sh, 0, none⟩)] #[]) inv rfl rfl (by decide) (by decide +kernel) (by decide +kernel) (fun _ _ _ h => h) hS0 (Or.inl ⟨by rfl, fun w' hS' => by obtain ⟨c1, c2, c3, c4, c5⟩ := hS'; go_simp⟩) (fun inv' => ?_)
  clear inv; have inv := inv'; clear inv'
  simp only [List.setIfInBounds_toArray, List.set_cons_zero, List.set_cons_succ]
  refine Fd.till_at 1 8 (.agg L.toArray) inv rfl rfl (by decide) (by decide +kernel) (by decide +kernel) (fun _ _ _ h => h) hS0 (yieldsIf_load_mid (by rfl) 27 (.tmp 5) rfl m 0 rfl L _ (fun u hu => hu.2.2.1) Tryz.underlying27 rfl hiL) (fun inv' => ?_)
  clear inv; have inv := inv'; clear inv'
  simp only [List.setIfInBounds_toArray, List.set_cons_zero, List.set_cons_succ]
  refine Fd.till_at 2 9 (.slice (some ⟨r, o, none⟩) n c) inv rfl rfl (by decide) (by decide +kernel) (by decide +kernel) (fun _ _ _ h => h) hS0 (Or.inl ⟨by rfl, fun w' hS' => by obtain ⟨c1, c2, c3, c4, c5⟩ := hS'; go_simp⟩) (fun inv' => ?_)
  clear inv; have inv := inv'; clear inv'
  simp only [List.setIfInBounds_toArray, List.set_cons_zero, List.set_cons_succ]
  refine Fd.till_at 3 10 (.int .i64 (j : Nat)) inv rfl rfl (by decide) (by decide +kernel) (by decide +kernel) (fun _ _ _ h => h) hS0 (Or.inl ⟨by rfl, fun w' hS' => by obtain ⟨c1, c2, c3, c4, c5⟩ := hS'; go_simp⟩) (fun inv' => ?_)
  clear inv; have inv := inv'; clear inv'
  simp only [List.setIfInBounds_toArray, List.set_cons_zero, List.set_cons_succ]
  refine Fd.till_at 4 11 (.pointer (some ⟨r, o + j * 16, none⟩)) inv rfl rfl (by decide) (by decide +kernel) (by decide +kernel) (fun _ _ _ h => h) hS0 (Or.inl ⟨by rfl, fun w' hS' => by obtain ⟨c1, c2, c3, c4, c5⟩ := hS'; go_simp⟩) (fun inv' => ?_)
  clear inv; have inv := inv'; clear inv'
  simp only [List.setIfInBounds_toArray, List.set_cons_zero, List.set_cons_succ]
  refine Fd.till_at 5 12 (.agg X.toArray) inv rfl rfl (by decide) (by decide +kernel) (by decide +kernel) (fun _ _ _ h => h) hS0 (yieldsIf_load_mid (by rfl) 27 (.tmp 11) rfl r (o + j * 16) rfl X _ (fun u hu => hu.2.2.2.1) Tryz.underlying27 rfl hiX) (fun inv' => ?_)
  clear inv; have inv := inv'; clear inv'
  simp only [List.setIfInBounds_toArray, List.set_cons_zero, List.set_cons_succ]
  refine Fd.till_at 8 15 (.slice (some ⟨r, o, none⟩) n c) inv rfl rfl (by decide) (by decide +kernel) (by decide +kernel) (fun _ _ _ h => h) hS0 (Or.inl ⟨by rfl, fun w' hS' => by obtain ⟨c1, c2, c3, c4, c5⟩ := hS'; go_simp⟩) (fun inv' => ?_)
  clear inv; have inv := inv'; clear inv'
  simp only [List.setIfInBounds_toArray, List.set_cons_zero, List.set_cons_succ]
  refine Fd.till_at 9 16 (.int .i64 (j : Nat)) inv rfl rfl (by decide) (by decide +kernel) (by decide +kernel) (fun _ _ _ h => h) hS0 (Or.inl ⟨by rfl, fun w' hS' => by obtain ⟨c1, c2, c3, c4, c5⟩ := hS'; go_simp⟩) (fun inv' => ?_)
  clear inv; have inv := inv'; clear inv'
  simp only [List.setIfInBounds_toArray, List.set_cons_zero, List.set_cons_succ]
  refine Fd.till_at 10 17 (.pointer (some ⟨r, o + j * 16, none⟩)) inv rfl rfl (by decide) (by decide +kernel) (by decide +kernel) (fun _ _ _ h => h) hS0 (Or.inl ⟨by rfl, fun w' hS' => by obtain ⟨c1, c2, c3, c4, c5⟩ := hS'; go_simp⟩) (fun inv' => ?_)
  clear inv; have inv := inv'; clear inv'
  simp only [List.setIfInBounds_toArray, List.set_cons_zero, List.set_cons_succ]
  refine Fd.till_at 11 18 (.agg X.toArray) inv rfl rfl (by decide) (by decide +kernel) (by decide +kernel) (fun _ _ _ h => h) hS0 (yieldsIf_load_mid (by rfl) 27 (.tmp 17) rfl r (o + j * 16) rfl X _ (fun u hu => hu.2.2.2.1) Tryz.underlying27 rfl hiX) (fun inv' => ?_)
  clear inv; have inv := inv'; clear inv'
  simp only [List.setIfInBounds_toArray, List.set_cons_zero, List.set_cons_succ]
  refine Fd.till_head (i := 6) inv (by decide +kernel) (by decide) rfl (fun KK hK => ?_)
  go_simp
  refine (HX1.out _).mono ?_
  intro e2 w2 hh
  obtain ⟨rfl, hb2⟩ := hh.out
  have HB2 : Hid (Bx w2 m 27 L ∧ Bx w2 (m + 1) 27 ZZ ∧ Below w1.heap.size w1 w2 ∧ MkX Ks I fn sh p q r o n c f w2) := (have hb := (Below.refl w1.heap.size w1).drew.trans hb2; ⟨HB1.out.1.below hb, HB1.out.2.1.below hb, hb, HB1.out.2.2.2.1.below hC hb⟩)
  clear hh hb2
  go_wp2_with fail
  refine hK.out _ _ (HR.out w2 ZZ HB2.out.2.2.2 HB2.out.1 HB2.out.2.1 rfl) (fun inv' => ?_)
  clear hK KK inv; have inv := inv'; clear inv'
  try simp only [List.setIfInBounds_toArray, List.set_cons_zero, List.set_cons_succ]
  refine Fd.till_head (i := 7) inv (by decide +kernel) (by decide) rfl (fun KK hK => ?_)
  go_simp
  refine (HE.out _ HB2.out.2.2.2).mono ?_
  intro e3 w3 hh
  obtain ⟨rfl, hk3, hg3⟩ := hh.out
  have HB3 : Hid (Bx w3 m 27 L ∧ Bx w3 (m + 1) 27 ZZ ∧ Gk Ks w2 w3 ∧ MkX Ks I fn sh p q r o n c f w3) := ⟨HB2.out.1.gk hg3 (hC.new HB1.out.2.2.2.2), HB2.out.2.1.gk hg3 (hC.new (Nat.le_succ_of_le HB1.out.2.2.2.2)), hg3, HB2.out.2.2.2.grown hg3 hk3⟩
  clear hh hk3 hg3
  go_wp2_with fail
  refine hK.out _ _ (HR.out w3 ZZ HB3.out.2.2.2 HB3.out.1 HB3.out.2.1 rfl) (fun inv' => ?_)
  clear hK KK inv; have inv := inv'; clear inv'
  try simp only [List.setIfInBounds_toArray, List.set_cons_zero, List.set_cons_succ]
  refine Fd.till_head (i := 12) inv (by decide +kernel) (by decide) rfl (fun KK hK => ?_)
  go_simp
  refine (HX2.out _).mono ?_
  intro e4 w4 hh
  obtain ⟨rfl, hb4⟩ := hh.out
  have HB4 : Hid (Bx w4 m 27 L ∧ Bx w4 (m + 1) 27 ZZ ∧ Below w3.heap.size w3 w4 ∧ MkX Ks I fn sh p q r o n c f w4) := ⟨HB3.out.1.below hb4, HB3.out.2.1.below hb4, hb4, HB3.out.2.2.2.below hC hb4⟩
  clear hh hb4
  go_wp2_with fail
  refine hK.out _ _ (HR.out w4 ZZ HB4.out.2.2.2 HB4.out.1 HB4.out.2.1 rfl) (fun inv' => ?_)
  clear hK KK inv; have inv := inv'; clear inv'
  try simp only [List.setIfInBounds_toArray, List.set_cons_zero, List.set_cons_succ]
  refine Fd.till_tail (i := 13) (by decide +kernel) (by decide) rfl (fun KK hK => ?_)
  rw [if_pos (by rfl)]
  refine wp_store_mid 27 (.tmp 6) (.tmp 19) rfl (m + 1) 0 L4.toArray rfl rfl (by simpa [h416] using bx_there HB4.out.2.1 rfl) (by rw [List.size_toArray]; exact hi4) (all_oneCell_toArray h41) ?_
  refine hK.out _ _ ?_
  clear hK KK
  try simp only [List.setIfInBounds_toArray, List.set_cons_zero, List.set_cons_succ]
  refine Fd.till_done (by decide +kernel) ?_ _
  refine NoPanic.normal ?_
  have HB9 : Hid (Bx (w4.setCells (m + 1) 0 L4.toArray.toList) (m + 1) 27 L4 ∧ w4.grownBy (w4.setCells (m + 1) 0 L4.toArray.toList) (some (m + 1))) := ⟨HB4.out.2.1.store L4 (by rw [h416]; rfl), setCells_gb (m + 1) L4 0 w4⟩
  obtain ⟨u9, hu9⟩ : ∃ u9, u9 = w4.setCells (m + 1) 0 L4.toArray.toList := ⟨_, rfl⟩
  rw [← hu9] at HB9 ⊢
  clear hu9 hS0 hS1 inv
  go_wp2
  have hgm := HB1.out.2.2.2.2
  have hg9 := HB9.out.2
  have hb4 := HB4.out.2.2.1
  have hg3 := HB3.out.2.2.1
  have hb2 := HB2.out.2.2.1
  have hb1 := HB1.out.2.2.1
  have hw1 := HW1.out
  have s2 := hb2.size
  have s3 := hg3.size
  have s4 := hb4.size
  have hgw : Gk Ks w w4 := (Gk.of_below (by rw [HMM.out]; exact hb1)).trans ((Gk.of_below hb2).trans (hg3.trans (Gk.of_below hb4)))
  have hg : Gk Ks w u9 := hgw.gb hg9 (by rw [HMM.out]; omega)
  refine ret_agg (b := m + 1) L4 rfl rfl HB9.out.1.range Tryz.underlying27 rfl hi4 ⟨rfl, HB0.out.grown hg (hC.gb HB4.out.2.2.2.inv hg9 (by omega)), hg⟩
end Go.Proofs.YtehlppaidgkpaaaGreatDoor
namespace Go.Proofs.YtehlppaidgkpaaaGreatDoor
open Go.RowKit
set_option linter.unusedVariables false
set_option linter.unusedSimpArgs false
theorem Tryz.info29b : (Tryz.prog.info? 27).map (fun i => (i.zero, i.size, i.bytes)) = some (some (.agg ZZ.toArray), 16, 16) := by kernel_rfl
theorem Tryz.underlying77b : Tryz.prog.underlying 237 = some (.slice 27) := by kernel_rfl
theorem Bx.storeAt {w : World} {b o : Nat} {t : TypeId} {cur L : List Value} (h : Bx w b t cur) (hl : o + L.length ≤ cur.length) : Bx (w.setCells b o L) b t (splice cur o L) := by
  obtain ⟨r, h1, h2, h3⟩ := setCells_bo b t L o w cur.toArray h
  have e : r = (splice cur o L).toArray := by
    apply Array.ext_getElem?
    intro j
    rw [h3]
    simp only [List.size_toArray, List.getElem?_toArray, splice]
    by_cases c1 : j < o
    · rw [if_neg (by omega), List.getElem?_append_left (by rw [List.length_take]; omega), List.getElem?_take, if_pos c1]
    · rw [List.getElem?_append_right (by rw [List.length_take]; omega), List.length_take, Nat.min_eq_left (by omega)]
      by_cases c2 : j < o + L.length
      · rw [if_pos (by omega), List.getElem?_append_left (by omega)]
      · rw [if_neg (by omega), List.getElem?_append_right (by omega), List.getElem?_drop]
        congr 1; omega
  unfold Bx
  rw [h1, e]
theorem own_full16 {w : World} {base n g : Nat} {e : TypeId} {xs : List Value} (h : w.ownsRow base e 16 (.slice (some ⟨g, 0, none⟩) n n) n xs) : Bx w g e xs ∧ xs.length = 16 * n := by
  obtain ⟨h1, h2⟩ := h
  rcases h2 with ⟨q, _⟩ | ⟨g', cap, cur, q, _, hh, _, _, hs, ht⟩
  · cases q
  · injection q with q1 q2 q3
    injection q1 with q1
    injection q1 with q1
    subst q1 q3
    have : xs.toArray = cur := by
      rw [← ht, List.take_of_length_le (by simp; omega)]
    refine ⟨?_, by omega⟩
    unfold Bx; rw [hh, this]
end Go.Proofs.YtehlppaidgkpaaaGreatDoor
namespace Go.Proofs.YtehlppaidgkpaaaGreatDoor
open Go.RowKit
set_option linter.unusedVariables false
set_option linter.unusedSimpArgs false
theorem pk_congr (F G : Nat → Nat) : ∀ n, (∀ i, i < n → F i = G i) → Fd.pk F n = Fd.pk G n
  | 0, _ => rfl
  | n + 1, h => by rw [Fd.pk, Fd.pk, pk_congr F G n (fun i hi => h i (by omega)), h n (by omega)]
end Go.Proofs.YtehlppaidgkpaaaGreatDoor
namespace Go.Proofs.YtehlppaidgkpaaaGreatDoor
open Go.RowKit
set_option linter.unusedVariables false
set_option linter.unusedSimpArgs false
theorem nV_parts (n : Nat) (h : n < 18446744073709551616) : Fd.hiV (BitVec.ofNat 128 n) = 0 ∧ Fd.loV (BitVec.ofNat 128 n) = n := by
  unfold Fd.hiV Fd.loV
  rw [BitVec.toNat_ofNat]
  constructor <;> omega
theorem little0_ok (n : Nat) (h : n < 18446744073709551616) (w : World) : Calls Tryz.prog 38 #[.int .u64 0, .int .u64 (n : Nat)] w fun e w' => Hid (e = .returned (Fd.BV (BitVec.ofNat 128 n)) ∧ Below w.heap.size w w') := by
  have q := Fd.little_ok (BitVec.ofNat 128 n) w
  rw [(nV_parts n h).1, (nV_parts n h).2] at q
  exact q.mono fun e w' hh => hh
/-- The first block of plain. -/
def plV (b : Bool) (s : Nat) : BitVec 128 := BitVec.ofNat 128 (if b then s else s % 4294967296)
set_option maxHeartbeats 800000 in
set_option maxRecDepth 100000 in
theorem plain_ok (s : Nat) (n : Int) (w : World) (hs : s < 18446744073709551616) :
    Calls Tryz.prog 179 #[.int .u64 (s : Nat), .int .i64 n] w fun e w' => Hid (e = .returned (Fd.BV (plV false s)) ∧ Below w.heap.size w w') := by
  obtain ⟨x, HX⟩ : ∃ x, Hid (s % 4294967296 = x) := ⟨_, rfl⟩
  have hx : bits BinOp.and IntKind.u64 (s : Int) 4294967295 = (x : Int) := by rw [u64_and32 s hs, HX.out]
  obtain ⟨M, HMM⟩ : ∃ M, Hid (M = Fd.BL (plV false s)) := ⟨_, rfl⟩
  have HG : Hid (∀ u, Calls Tryz.prog 38 #[.int .u64 0, .int .u64 (x : Nat)] u fun e w' => Hid (e = .returned (.agg M.toArray) ∧ Below u.heap.size u w')) := fun u => by
    rw [HMM.out]; unfold plV; rw [if_neg (by decide), HX.out]; exact little0_ok x (by rw [← HX.out]; omega) u
  have HLN : Hid (M.length = 16 ∧ (∀ x ∈ M, x.oneCell' = true)) := by rw [HMM.out]; exact ⟨rfl, BL_one8 _⟩
  show Calls Tryz.prog 179 #[_, _] w fun e w' => Hid (e = .returned (.agg (Fd.BL (plV false s)).toArray) ∧ _)
  rw [← HMM.out]
  obtain ⟨w1, hw1⟩ : ∃ w1, w1 = w.alloc (.cells ZZ.toArray 27) := ⟨_, rfl⟩
  have HB1 : Hid (Bx w1 w.heap.size 27 ZZ ∧ Below w.heap.size w w1) := by rw [hw1]; exact ⟨Bx.new w 27 ZZ, (Below.refl _ _).alloc (Nat.le_refl _) _⟩
  clear hs
  go_enter Tryz.func179, Tryz.ntmps179
  go_upto_region 1 with fail
  rw [show w.alloc (.cells _ 27) = w1 from hw1.symm]
  clear hw1
  obtain ⟨m, HM2⟩ : ∃ m, Hid (w.heap.size = m) := ⟨_, rfl⟩
  rw [HM2.out] at HB1 ⊢
  go_wp2_with (first
    | (go_at_call 38; refine (HG.out _).mono ?_; intro e4 w4 hh; obtain ⟨rfl, hb4⟩ := hh.out; have HB4 : Hid (Bx w4 m 27 ZZ ∧ Below m w w4) := ⟨HB1.out.1.below hb4, HB1.out.2.trans (hb4.mono (by have := HB1.out.1.lt; omega))⟩; clear hh hb4)
    | (refine wpList_store_bx (by rfl) 27 (.tmp 4) (.tmp 7) (by rfl) ZZ M m (by rfl) (by rfl) HB4.out.1 (by rw [HLN.out.1]; rfl) (by rw [HLN.out.1]; kernel_rfl) HLN.out.2 ?_; intro u9 hb9 hg9))
  refine ret_agg (b := m) M rfl rfl hb9.range Tryz.underlying27 rfl (by rw [HLN.out.1]; kernel_rfl) ⟨rfl, ?_⟩
  have hfin : Below m w u9 := HB4.out.2.trans (below_gb hg9 (by have := HB4.out.1.lt; omega) (by omega))
  first | exact hfin | (rw [HM2.out]; exact hfin)
set_option maxHeartbeats 800000 in
set_option maxRecDepth 100000 in
theorem plain64_ok (s : Nat) (n : Int) (w : World) (hs : s < 18446744073709551616) :
    Calls Tryz.prog 180 #[.int .u64 (s : Nat), .int .i64 n] w fun e w' => Hid (e = .returned (Fd.BV (plV true s)) ∧ Below w.heap.size w w') := by
  obtain ⟨M, HMM⟩ : ∃ M, Hid (M = Fd.BL (plV true s)) := ⟨_, rfl⟩
  have HG : Hid (∀ u, Calls Tryz.prog 38 #[.int .u64 0, .int .u64 (s : Nat)] u fun e w' => Hid (e = .returned (.agg M.toArray) ∧ Below u.heap.size u w')) := fun u => by
    rw [HMM.out]; unfold plV; rw [if_pos rfl]; exact little0_ok s hs u
  have HLN : Hid (M.length = 16 ∧ (∀ x ∈ M, x.oneCell' = true)) := by rw [HMM.out]; exact ⟨rfl, BL_one8 _⟩
  show Calls Tryz.prog 180 #[_, _] w fun e w' => Hid (e = .returned (.agg (Fd.BL (plV true s)).toArray) ∧ _)
  rw [← HMM.out]
  obtain ⟨w1, hw1⟩ : ∃ w1, w1 = w.alloc (.cells ZZ.toArray 27) := ⟨_, rfl⟩
  have HB1 : Hid (Bx w1 w.heap.size 27 ZZ ∧ Below w.heap.size w w1) := by rw [hw1]; exact ⟨Bx.new w 27 ZZ, (Below.refl _ _).alloc (Nat.le_refl _) _⟩
  clear hs
  go_enter Tryz.func180, Tryz.ntmps180
  go_upto_region 1 with fail
  rw [show w.alloc (.cells _ 27) = w1 from hw1.symm]
  clear hw1
  obtain ⟨m, HM2⟩ : ∃ m, Hid (w.heap.size = m) := ⟨_, rfl⟩
  rw [HM2.out] at HB1 ⊢
  go_wp2_with (first
    | (go_at_call 38; refine (HG.out _).mono ?_; intro e4 w4 hh; obtain ⟨rfl, hb4⟩ := hh.out; have HB4 : Hid (Bx w4 m 27 ZZ ∧ Below m w w4) := ⟨HB1.out.1.below hb4, HB1.out.2.trans (hb4.mono (by have := HB1.out.1.lt; omega))⟩; clear hh hb4)
    | (refine wpList_store_bx (by rfl) 27 (.tmp 4) (.tmp 6) (by rfl) ZZ M m (by rfl) (by rfl) HB4.out.1 (by rw [HLN.out.1]; rfl) (by rw [HLN.out.1]; kernel_rfl) HLN.out.2 ?_; intro u9 hb9 hg9))
  refine ret_agg (b := m) M rfl rfl hb9.range Tryz.underlying27 rfl (by rw [HLN.out.1]; kernel_rfl) ⟨rfl, ?_⟩
  have hfin : Below m w u9 := HB4.out.2.trans (below_gb hg9 (by have := HB4.out.1.lt; omega) (by omega))
  first | exact hfin | (rw [HM2.out]; exact hfin)
end Go.Proofs.YtehlppaidgkpaaaGreatDoor
