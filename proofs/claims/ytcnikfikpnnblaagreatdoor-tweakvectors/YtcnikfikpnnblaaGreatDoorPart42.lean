import Derived.Test.YtcnikfikpnnblaaGreatDoorPart40
import Derived.Deep.Cut
import Derived.Test.YtcnikfikpnnblaaGreatDoorPart31
import Derived.Test.YtcnikfikpnnblaaGreatDoorXmk
namespace Go.Proofs.YtcnikfikpnnblaaGreatDoor
open Go.RowKit
set_option linter.unusedVariables false
set_option linter.unusedSimpArgs false
theorem alloc29_run (w : World) : (execOp (fun _ => undef) { dst := some 0, op := Op.alloc 29, type := 0, pos := "", after := #[], guard := none }).run Tryz.prog w = .ok (.value (.pointer (some ⟨w.heap.size, 0, none⟩))) (w.alloc (.cells ZZ.toArray 29)) := by kernel_rfl
theorem step_alloc29 {ops : Array Oper} {o : Oper} {a : Act} {w : World} {K : Act → World → Prop} {Q : Exit → Act → World → Prop} {E : Prop} (hgd : o.guard = none) (d : Nat) (hd : o.dst = some d) (ho : o.op = .alloc 29)
    (h : ∀ u b, Hid (u = w.alloc (.cells ZZ.toArray 29)) → Hid (b = w.heap.size) → K (a.put (some d) (.pointer (some ⟨b, 0, none⟩))) u) : if Region.wanted o (yielded ops a.tmps) = true then Oper.wp Tryz.prog o a w K Q else E := by
  have hw : Region.wanted o (yielded ops a.tmps) = true := by simp [Region.wanted, hgd]
  rw [if_pos hw]
  have z := h _ _ rfl rfl
  rw [← hd] at z
  have q : (execOp a.eval o).run Tryz.prog w = .ok (.value (.pointer (some ⟨w.heap.size, 0, none⟩))) (w.alloc (.cells ZZ.toArray 29)) := by
    have e := alloc29_run w
    simp only [execOp, ho] at e ⊢
    exact e
  unfold Oper.wp
  rw [q]
  exact z
/-- What hctr2's functions keep: the receiver's box at M. -/
structure HcI (g nr : Nat) (K : Nat → Nat) (sh fn M : Nat) (w u : World) : Prop where
  key : KeyAt u g nr K
  csh : u.cell? ⟨sh, 4, none⟩ = some (.pointer (some ⟨g, 0, none⟩))
  box : Bx u M 212 [.pointer (some ⟨sh, 0, none⟩), .func (.func fn) #[] #[]]
  gb : w.grownBy u (some g)
  hM : w.heap.size ≤ M
  hg : g < w.heap.size
  n1 : sh ≠ g
theorem HcI.below {g nr : Nat} {K : Nat → Nat} {sh fn M : Nat} {w u v : World} (h : HcI g nr K sh fn M w u) (hb : Below u.heap.size u v) : HcI g nr K sh fn M w v :=
  ⟨h.key.below hb h.key.ciph.here, (hb.cell (World.block_lt_of_cell? u _ h.csh)).trans h.csh, h.box.below hb, ⟨hb.os.trans h.gb.os, hb.tape.trans h.gb.tape, hb.output.trans h.gb.output, Nat.le_trans h.gb.size hb.size, fun c hc hn => (hb.block c (Nat.lt_of_lt_of_le hc h.gb.size)).trans (h.gb.block c hc hn)⟩, h.hM, h.hg, h.n1⟩
theorem HcI.drew {g nr : Nat} {K : Nat → Nat} {sh fn M : Nat} {w u : World} (h : HcI g nr K sh fn M w u) : HcI g nr K sh fn M w u.drew := h.below (Below.refl _ _).drew
theorem HcI.alloc {g nr : Nat} {K : Nat → Nat} {sh fn M : Nat} {w u : World} (h : HcI g nr K sh fn M w u) (o : Obj) : HcI g nr K sh fn M w (u.alloc o) := h.below ((Below.refl _ _).alloc (Nat.le_refl _) _)
theorem HcI.enc {g nr : Nat} {K : Nat → Nat} {sh fn M : Nat} {w u v : World} (h : HcI g nr K sh fn M w u) (hk : KeyAt v g nr K) (hg : u.grownBy v (some g)) : HcI g nr K sh fn M w v := by
  have hne := h.n1
  have hlt := h.hg
  have hM := h.hM
  exact ⟨hk, (World.cell?_of_block (a := ⟨sh, 4, none⟩) (hg.block sh (World.block_lt_of_cell? u _ h.csh) (fun e => hne (by injection e)))).trans h.csh, h.box.keep (hg.block M h.box.lt (fun e => by injection e with e; omega)), gb_trans h.gb hg, h.hM, h.hg, h.n1⟩
/-- A new block is written. -/
theorem HcI.put {g nr : Nat} {K : Nat → Nat} {sh fn M b : Nat} {w u v : World} (h : HcI g nr K sh fn M w u) (hg : u.grownBy v (some b)) (hb : M < b) (hs : sh < w.heap.size) : HcI g nr K sh fn M w v := by
  have hlt := h.hg
  have hM := h.hM
  refine ⟨h.key.sameK (hg.block g h.key.ciph.here (fun e => by injection e with e; omega)) hg.size, (World.cell?_of_block (a := ⟨sh, 4, none⟩) (hg.block sh (World.block_lt_of_cell? u _ h.csh) (fun e => by injection e with e; omega))).trans h.csh, h.box.keep (hg.block M h.box.lt (fun e => by injection e with e; omega)), ?_, h.hM, h.hg, h.n1⟩
  exact ⟨hg.os.trans h.gb.os, hg.tape.trans h.gb.tape, hg.output.trans h.gb.output, Nat.le_trans h.gb.size hg.size, fun c hc hn => (hg.block c (Nat.lt_of_lt_of_le hc h.gb.size) (fun e => by injection e with e; omega)).trans (h.gb.block c hc hn)⟩
theorem HcI.bx {g nr : Nat} {K : Nat → Nat} {sh fn M b : Nat} {t : TypeId} {L : List Value} {w u v : World} (h : HcI g nr K sh fn M w u) (hx : Bx u b t L) (hb : w.heap.size ≤ b) (hg : u.grownBy v (some g)) : Bx v b t L := by
  have hlt := h.hg
  exact hx.keep (hg.block b hx.lt (fun e => by injection e with e; omega))
end Go.Proofs.YtcnikfikpnnblaaGreatDoor
namespace Go.Proofs.YtcnikfikpnnblaaGreatDoor
open Go.RowKit
set_option linter.unusedVariables false
set_option linter.unusedSimpArgs false
/-- What count makes of a list. -/
def ctZ (E : Nat → BitVec 128) (zs : List Int) (i : Nat) : Int := ((nat8 zs i ^^^ Fd.byV (E (i / 16)) (i % 16) : Nat) : Int)
def ctL (E : Nat → BitVec 128) (zs : List Int) (m : Nat) : List Int := (List.range m).map (ctZ E zs)
/-- count's world: the receiver's box, the start's block; m bytes are done. -/
structure CtI (g nr : Nat) (K : Nat → Nat) (sh fn M : Nat) (ST : List Value) (b7 : Nat) (E : Nat → BitVec 128) (zs : List Int) (w u : World) (v : Value) (m : Nat) : Prop where
  hc : HcI g nr K sh fn M w u
  st : Bx u b7 29 ST
  own : u.ownsRow (M + 2) 5 1 v m (cellsU8 (ctL E zs m))
  hb7 : M + 2 ≤ b7
  hsh : sh < w.heap.size
  bg : M + 2 ≤ u.heap.size
theorem CtI.key {g nr : Nat} {K : Nat → Nat} {sh fn M : Nat} {ST : List Value} {b7 : Nat} {E : Nat → BitVec 128} {zs : List Int} {w u : World} {v : Value} {m : Nat} (h : CtI g nr K sh fn M ST b7 E zs w u v m) : KeyAt u g nr K := h.hc.key
theorem CtI.below {g nr : Nat} {K : Nat → Nat} {sh fn M : Nat} {ST : List Value} {b7 : Nat} {E : Nat → BitVec 128} {zs : List Int} {w u u2 : World} {v : Value} {m : Nat} (h : CtI g nr K sh fn M ST b7 E zs w u v m) (hb : Below u.heap.size u u2) : CtI g nr K sh fn M ST b7 E zs w u2 v m :=
  ⟨h.hc.below hb, h.st.below hb, ownsRow_below h.own hb, h.hb7, h.hsh, Nat.le_trans h.bg hb.size⟩
theorem CtI.enc {g nr : Nat} {K : Nat → Nat} {sh fn M : Nat} {ST : List Value} {b7 : Nat} {E : Nat → BitVec 128} {zs : List Int} {w u u2 : World} {v : Value} {m : Nat} (h : CtI g nr K sh fn M ST b7 E zs w u v m) (hk : KeyAt u2 g nr K) (hg : u.grownBy u2 (some g)) : CtI g nr K sh fn M ST b7 E zs w u2 v m := by
  have hM := h.hc.hM
  have hlt := h.hc.hg
  have h7 := h.hb7
  refine ⟨h.hc.enc hk hg, h.hc.bx h.st (by omega) hg, ownsRow_keep h.own fun q e => hg.block q (ownsRow_lt h.own e).2 (fun e2 => ?_), h.hb7, h.hsh, Nat.le_trans h.bg hg.size⟩
  injection e2 with e2
  have := (ownsRow_lt h.own e).1
  omega
theorem CtI.put {g nr : Nat} {K : Nat → Nat} {sh fn M : Nat} {ST : List Value} {b7 : Nat} {E : Nat → BitVec 128} {zs : List Int} {w u u2 : World} {v : Value} {m : Nat} (h : CtI g nr K sh fn M ST b7 E zs w u v m) {b : Nat} (hg : u.grownBy u2 (some b)) (hb : b7 < b) (hy : ∀ y, v.ownBlock = some y → y < b) : CtI g nr K sh fn M ST b7 E zs w u2 v m := by
  have hM := h.hc.hM
  have h7 := h.hb7
  refine ⟨h.hc.put hg (by omega) h.hsh, h.st.keep (hg.block b7 h.st.lt (fun e => by injection e with e; omega)), ownsRow_keep h.own fun q e => hg.block q (ownsRow_lt h.own e).2 (fun e2 => ?_), h.hb7, h.hsh, Nat.le_trans h.bg hg.size⟩
  injection e2 with e2
  have := hy q e
  omega
end Go.Proofs.YtcnikfikpnnblaaGreatDoor
namespace Go.Proofs.YtcnikfikpnnblaaGreatDoor
open Go.RowKit
set_option linter.unusedVariables false
set_option linter.unusedSimpArgs false
/-- seal's world: the receiver's box, and the hash's two. -/
structure SeI (g nr : Nat) (K : Nat → Nat) (sh fn M p q : Nat) (FI HH : List Value) (w u : World) : Prop where
  hc : HcI g nr K sh fn M w u
  bp : Bx u p 29 FI
  bq : Bx u q 29 HH
  lp : M < p
  lq : M < q
  hsh : sh < w.heap.size
theorem SeI.below {g nr : Nat} {K : Nat → Nat} {sh fn M p q : Nat} {FI HH : List Value} {w u u2 : World} (h : SeI g nr K sh fn M p q FI HH w u) (hb : Below u.heap.size u u2) : SeI g nr K sh fn M p q FI HH w u2 :=
  ⟨h.hc.below hb, h.bp.below hb, h.bq.below hb, h.lp, h.lq, h.hsh⟩
theorem SeI.enc {g nr : Nat} {K : Nat → Nat} {sh fn M p q : Nat} {FI HH : List Value} {w u u2 : World} (h : SeI g nr K sh fn M p q FI HH w u) (hk : KeyAt u2 g nr K) (hg : u.grownBy u2 (some g)) : SeI g nr K sh fn M p q FI HH w u2 := by
  have h1 := h.hc.hM
  have h2 := h.lp
  have h3 := h.lq
  exact ⟨h.hc.enc hk hg, h.hc.bx h.bp (by omega) hg, h.hc.bx h.bq (by omega) hg, h.lp, h.lq, h.hsh⟩
theorem SeI.put {g nr : Nat} {K : Nat → Nat} {sh fn M p q : Nat} {FI HH : List Value} {w u u2 : World} {b : Nat} (h : SeI g nr K sh fn M p q FI HH w u) (hg : u.grownBy u2 (some b)) (hp : p ≠ b) (hq : q ≠ b) (hM : M < b) : SeI g nr K sh fn M p q FI HH w u2 :=
  ⟨h.hc.put hg hM h.hsh, h.bp.keep (hg.block p h.bp.lt (fun e => hp (by injection e))), h.bq.keep (hg.block q h.bq.lt (fun e => hq (by injection e))), h.lp, h.lq, h.hsh⟩
theorem SeI.bx {g nr : Nat} {K : Nat → Nat} {sh fn M p q : Nat} {FI HH : List Value} {w u u2 : World} (h : SeI g nr K sh fn M p q FI HH w u) {b : Nat} {ty : TypeId} {L : List Value} (hx : Bx u b ty L) (hb : M < b) (hg : u.grownBy u2 (some g)) : Bx u2 b ty L := h.hc.bx hx (by have := h.hc.hM; omega) hg
end Go.Proofs.YtcnikfikpnnblaaGreatDoor
namespace Go.Proofs.YtcnikfikpnnblaaGreatDoor
open Go.RowKit
set_option linter.unusedVariables false
set_option linter.unusedSimpArgs false
theorem cutV_blB (v : BitVec 128) (r : List Int) : cutV (blB v ++ r) 0 = v := by
  have h : AllBytes (blB v) := fun i => by
    by_cases hi : i < 16
    · rw [blB_at v i hi]; have := Fd.byV_lt v i; omega
    · rw [List.getD_eq_getElem?_getD, List.getElem?_eq_none (by rw [blB_len]; omega)]; simp
  have e : cutV (blB v ++ r) 0 = BitVec.ofNat 128 (Fd.pk (fun i => Fd.byV v i) 16) := by
    unfold cutV
    rw [pk_congr _ (fun i => Fd.byV v i) 16 fun i hi => by
      unfold nat8
      rw [Nat.mul_zero, Nat.zero_add, List.getD_eq_getElem?_getD, List.getElem?_append_left (by rw [blB_len]; exact hi), ← List.getD_eq_getElem?_getD, blB_at v i hi]
      exact Int.toNat_natCast _]
  rw [e]
  exact Fd.ext_bytes fun i hi => Fd.byV_pk _ (fun _ => Fd.byV_lt _ _) i hi
end Go.Proofs.YtcnikfikpnnblaaGreatDoor
namespace Go.Proofs.YtcnikfikpnnblaaGreatDoor
open Go.RowKit
set_option linter.unusedVariables false
set_option linter.unusedSimpArgs false
/-- What ecb's function reads. -/
structure EcX (Ks : Nat → Prop) (I : World → Prop) (sh p : Nat) (u : World) : Prop where
  inv : I u
  cp : u.cell? ⟨p, 0, none⟩ = some (.pointer (some ⟨sh, 0, none⟩))
  n2 : ¬ Ks p
theorem EcX.grown {Ks : Nat → Prop} {I : World → Prop} {sh p : Nat} {u v : World} (h : EcX Ks I sh p u) (hk : Gk Ks u v) (hi : I v) : EcX Ks I sh p v := ⟨hi, hk.cell h.n2 h.cp, h.n2⟩
theorem EcX.below {Ks : Nat → Prop} {I : World → Prop} {B sh p : Nat} {u v : World} (h : EcX Ks I sh p u) (hC : Cst B Ks I) (hb : Below u.heap.size u v) : EcX Ks I sh p v := h.grown (Gk.of_below hb) (hC.below h.inv hb)
set_option maxHeartbeats 800000 in
set_option maxRecDepth 100000 in
/-- ecb's function of a block (194). -/
theorem ecb1_ok {B : Nat} {Ks : Nat → Prop} {I : World → Prop} (hC : Cst B Ks I) (sh p : Nat) (j : Int) (E : BitVec 128 → BitVec 128) (v : BitVec 128) (w : World) (HDO : DoI Ks I 148 (.pointer (some ⟨sh, 0, none⟩)) E) (h : EcX Ks I sh p w) :
    Calls Tryz.prog 194 #[.int .i64 j, Fd.BV v, .pointer (some ⟨p, 0, none⟩)] w fun e w' => Hid (e = .returned (Fd.BV (E v)) ∧ EcX Ks I sh p w' ∧ Gk Ks w w') := by
  obtain ⟨L, HL⟩ : ∃ L, Hid (L = Fd.BL v) := ⟨_, rfl⟩
  obtain ⟨M, HM⟩ : ∃ M, Hid (M = Fd.BL (E v)) := ⟨_, rfl⟩
  have HK : Hid (∀ u, I u → Calls Tryz.prog 148 #[.pointer (some ⟨sh, 0, none⟩), .agg L.toArray] u fun e w' => Hid (e = .returned (.agg M.toArray) ∧ I w' ∧ Gk Ks u w')) := fun u hu => by rw [HL.out, HM.out]; exact HDO v u hu
  have HL16 : Hid (L.length = 16 ∧ M.length = 16 ∧ (∀ x ∈ M, x.oneCell' = true)) := by rw [HL.out, HM.out]; exact ⟨rfl, rfl, BL_one8 _⟩
  show Calls Tryz.prog 194 #[_, .agg (Fd.BL v).toArray, _] w fun e w' => Hid (e = .returned (.agg (Fd.BL (E v)).toArray) ∧ _)
  rw [← HL.out, ← HM.out]
  obtain ⟨w1, hw1⟩ : ∃ w1, w1 = (w.alloc (.cells L.toArray 29)).alloc (.cells ZZ.toArray 29) := ⟨_, rfl⟩
  have HB1 : Hid (Bx w1 w.heap.size 29 L ∧ Bx w1 (w.heap.size + 1) 29 ZZ ∧ Below w.heap.size w w1 ∧ EcX Ks I sh p w1 ∧ B ≤ w.heap.size) := by
    have hb : Below w.heap.size w w1 := by rw [hw1]; exact ((Below.refl _ _).alloc (Nat.le_refl _) _).alloc (by simp) _
    refine ⟨?_, ?_, hb, h.below hC hb, hC.size w h.inv⟩
    · rw [hw1]; exact (Bx.new w 29 L).below ((Below.refl _ _).alloc (Nat.le_refl _) _)
    · rw [hw1]; have q := Bx.new (w.alloc (.cells L.toArray 29)) 29 ZZ; simpa using q
  have hw2 : w1 = (w.alloc (.cells L.toArray 29)).alloc (.cells #[.int .u8 0, .int .u8 0, .int .u8 0, .int .u8 0, .int .u8 0, .int .u8 0, .int .u8 0, .int .u8 0, .int .u8 0, .int .u8 0, .int .u8 0, .int .u8 0, .int .u8 0, .int .u8 0, .int .u8 0, .int .u8 0] 29) := hw1
  clear hw1
  have H0 : Hid (EcX Ks I sh p w) := h
  clear h HDO
  have c0 : w1.cell? ⟨p, 0, none⟩ = some (.pointer (some ⟨sh, 0, none⟩)) := HB1.out.2.2.2.1.cp
  go_enter Tryz.func194, Tryz.ntmps194
  go_upto_region 1 with fail
  rw [← hw2]
  clear hw2
  obtain ⟨m, HMM⟩ : ∃ m, Hid (w.heap.size = m) := ⟨_, rfl⟩
  rw [HMM.out] at HB1 ⊢
  go_wp2_with (first
    | (refine wpList_load_mid (by rfl) 29 (.tmp 4) (by rfl) m 0 (by rfl) L _ HB1.out.1.range Tryz.underlying29 rfl (by rw [HL16.out.1]; kernel_rfl) ?_)
    | (go_at_call 148; refine (HK.out _ HB1.out.2.2.2.1.inv).mono ?_; intro e2 w2 hh; obtain ⟨rfl, hk2, hg2⟩ := hh.out; have HB2 : Hid (I w2 ∧ Gk Ks w1 w2 ∧ Bx w2 (m + 1) 29 ZZ) := ⟨hk2, hg2, HB1.out.2.1.gk hg2 (hC.new (Nat.le_succ_of_le HB1.out.2.2.2.2))⟩; clear hh hk2 hg2)
    | (refine wpList_store_bx (by rfl) 29 (.tmp 5) (.tmp 9) (by rfl) ZZ M (m + 1) (by rfl) (by rfl) HB2.out.2.2 (by rw [HL16.out.2.1]; rfl) (by rw [HL16.out.2.1]; kernel_rfl) HL16.out.2.2 ?_; intro u9 hb9 hg9))
  have hgk : Gk Ks w u9 := ((Gk.of_below (by rw [HMM.out]; exact HB1.out.2.2.1)).trans HB2.out.2.1).gb hg9 (by rw [HMM.out]; omega)
  have hi9 : I u9 := hC.gb HB2.out.1 hg9 (Nat.le_succ_of_le HB1.out.2.2.2.2)
  refine ret_agg (b := m + 1) M rfl rfl hb9.range Tryz.underlying29 rfl (by rw [HL16.out.2.1]; kernel_rfl) ⟨rfl, H0.out.grown hgk hi9, hgk⟩
set_option maxHeartbeats 800000 in
set_option maxRecDepth 100000 in
/-- ecb's ecbseal_ok. -/
theorem ecbseal_ok {B : Nat} {Ks : Nat → Prop} {I : World → Prop} (hC : Cst B Ks I) (sh : Nat) (E : BitVec 128 → BitVec 128) (s : Int) (b off cp k : Nat) (zs : List Int) (w : World) (hI : I w) (HDO : DoI Ks I 148 (.pointer (some ⟨sh, 0, none⟩)) E)
    (hl : zs.length = 16 * k) (hk0 : 0 < k) (hl3 : zs.length ≤ 4096) (hc1 : zs.length ≤ cp) (hb : AllBytes zs) (hbg : ¬ Ks b) (hz : ∀ i, i < zs.length → w.cell? ⟨b, off + i, none⟩ = some (.int .u8 (zs.getD i 0))) :
    Calls Tryz.prog 131 #[.agg #[.pointer (some ⟨sh, 0, none⟩)], .int .u64 s, .slice (some ⟨b, off, none⟩) zs.length cp] w fun e w' => Hid (∃ x, e = .returned (.slice (some ⟨x, 0, none⟩) zs.length zs.length) ∧ w.heap.size ≤ x ∧ Bx w' x 5 (bkL (fun j => E (cutV zs j)) k) ∧ I w' ∧ Gk Ks w w') := by
  obtain ⟨w1, hw1⟩ : ∃ w1, w1 = w.alloc (.cells #[.pointer (some ⟨sh, 0, none⟩)] 196) := ⟨_, rfl⟩
  have hBw : B ≤ w.heap.size := hC.size w hI
  have hb1 : Below w.heap.size w w1 := by rw [hw1]; exact (Below.refl _ _).alloc (Nat.le_refl _) _
  have hs1 : w1.heap.size = w.heap.size + 1 := by rw [hw1]; simp
  have hB1 : Bx w1 w.heap.size 196 [.pointer (some ⟨sh, 0, none⟩)] := by rw [hw1]; exact Bx.new w 196 [.pointer (some ⟨sh, 0, none⟩)]
  have cc : ∀ b o x, w.cell? ⟨b, o, none⟩ = some x → w1.cell? ⟨b, o, none⟩ = some x := fun b o x hx => (hb1.cell (World.block_lt_of_cell? w _ hx)).trans hx
  have hbl : b < w.heap.size := World.block_lt_of_cell? w _ (hz 0 (by omega))
  obtain ⟨J, HJ⟩ : ∃ J : Nat → World → Prop, Hid (J = fun _ u => EcX Ks I sh w.heap.size u ∧ (∀ i, i < zs.length → u.cell? ⟨b, off + i, none⟩ = some (.int .u8 (zs.getD i 0))) ∧ (∀ c, c < w1.heap.size → ¬ Ks c → u.heap[c]? = w1.heap[c]?)) := ⟨_, rfl⟩
  obtain ⟨F, HF⟩ : ∃ F : Nat → BitVec 128, Hid (F = fun j => E (cutV zs j)) := ⟨_, rfl⟩
  have hLow : LowJ w1.heap.size J := by
    rw [HJ.out]
    intro k u u' h hz hk hsz
    obtain ⟨h1, h2, h3⟩ := h
    have cc : ∀ b o x, b < w1.heap.size → u.cell? ⟨b, o, none⟩ = some x → u'.cell? ⟨b, o, none⟩ = some x := fun b o x hb hx => by
      rw [World.cell?_of_block (a := ⟨b, o, none⟩) (hk b hb)]; exact hx
    exact ⟨⟨hC.stay u u' h1.inv (fun c hc => hk c (by omega)) hsz, cc _ _ _ (by omega) h1.cp, h1.n2⟩, fun i hi => cc _ _ _ (by omega) (h2 i hi), fun c hc hn => (hk c hc).trans (h3 c hc hn)⟩
  have hJ0 : J 0 w1 := by rw [HJ.out]; exact ⟨⟨hC.below hI hb1, hB1.cell 0 _ rfl, hC.new hBw⟩, fun i hi => cc _ _ _ (hz i hi), fun _ _ _ => rfl⟩
  have HB : Hid (Calls Tryz.prog 193 #[.slice (some ⟨b, off, none⟩) zs.length cp, .func (.func 194) #[] #[.pointer (some ⟨w.heap.size, 0, none⟩)]] w1 fun e w' => Hid (e = .returned (.slice (some ⟨w1.heap.size, 0, none⟩) zs.length zs.length) ∧ BwI J F zs.length w1 w' k)) := by
    refine blockwise1 194 w.heap.size (fun args w => enter_ok Tryz.func194 (by rfl) (by rfl) args w) J F b off cp k zs w1 hLow hJ0 (by omega) (by omega) hl3 hc1 hb (fun j u h i hi => by rw [HJ.out] at h; exact h.2.1 i hi) (fun j u hj h hsz => ?_)
    rw [HJ.out] at h ⊢
    obtain ⟨h1, h2, h3⟩ := h
    refine (ecb1_ok hC sh w.heap.size j E (cutV zs j) u HDO h1).mono ?_
    intro e w' hh
    obtain ⟨rfl, k1, k2⟩ := hh.out
    exact ⟨by rw [HF.out], ⟨k1, fun i hi => k2.cell hbg (h2 i hi), fun c hc hn => (k2.block c (by omega) hn).trans (h3 c hc hn)⟩, Kp.of_gk k2 (fun c hc => by have := hC.low c hc; omega)⟩
  have HJF : Hid (∀ u, BwI J F zs.length w1 u k → I u ∧ Gk Ks w u ∧ Bx u w1.heap.size 5 (bkL F k)) := fun u hu => by
    have h := hu.inv
    rw [HJ.out] at h
    refine ⟨h.1.inv, ⟨hu.os.trans hb1.os, hu.tape.trans hb1.tape, hu.output.trans hb1.output, Nat.le_trans hb1.size hu.size, fun c hc hn => (h.2.2 c (by omega) hn).trans (hb1.block c hc)⟩, ?_⟩
    have z := hu.row
    rw [bkR_end F _ k hl] at z
    exact z
  obtain ⟨N, HNL⟩ : ∃ n, Hid (zs.length = n) := ⟨_, rfl⟩
  rw [HNL.out] at HB HJF ⊢
  rw [← HF.out]
  have HS1 : Hid (w1.heap.size = w.heap.size + 1) := hs1
  clear hI HDO hl hk0 hl3 hc1 hb hbg hz hb1 hB1 cc hbl hLow hJ0 hBw hs1
  go_enter Tryz.func131, Tryz.ntmps131
  go_upto_region 1 with fail
  rw [← hw1]
  clear hw1
  go_wp2_with (first
    | (go_at_call 193; refine HB.out.mono ?_; intro e2 w2 hh; obtain ⟨rfl, h2⟩ := hh.out; have HX : Hid (BwI J F N w1 w2 k) := h2; clear hh h2 HB))
  go_ret
  obtain ⟨z1, z2, z3⟩ := HJF.out _ HX.out
  exact ⟨_, rfl, by have := HS1.out; omega, z3, z1, z2⟩
end Go.Proofs.YtcnikfikpnnblaaGreatDoor
