import Derived.Test.YtehlppaidgkpaaaGreatDoorPart45
import Derived.Great.BuildSlice
namespace Go.Proofs.YtehlppaidgkpaaaGreatDoor
open Go.RowKit
set_option linter.unusedVariables false
set_option linter.unusedSimpArgs false
/-- The bytes of blocks, with zeros behind. -/
def bkZ (F : Nat → BitVec 128) (n k : Nat) : List Int := (List.range n).map fun i => if i < 16 * k then ((Fd.byV (F (i / 16)) (i % 16) : Nat) : Int) else 0
theorem bkZ_len (F : Nat → BitVec 128) (n k : Nat) : (bkZ F n k).length = n := by simp [bkZ]
theorem bkZ_at (F : Nat → BitVec 128) (n k i : Nat) (hi : i < n) : (bkZ F n k).getD i 0 = if i < 16 * k then ((Fd.byV (F (i / 16)) (i % 16) : Nat) : Int) else 0 := by
  rw [List.getD_eq_getElem?_getD, bkZ, List.getElem?_map, List.getElem?_range hi]; rfl
theorem bkZ_bytes (F : Nat → BitVec 128) (n k : Nat) : AllBytes (bkZ F n k) := fun i => by
  by_cases hi : i < n
  · rw [bkZ_at F n k i hi]; split
    · have := Fd.byV_lt (F (i / 16)) (i % 16); omega
    · omega
  · rw [List.getD_eq_getElem?_getD, List.getElem?_eq_none (by rw [bkZ_len]; omega)]; simp
theorem bkR_at (F : Nat → BitVec 128) (n k i : Nat) (hk : 16 * k ≤ n) (hi : i < n) : (bkR F n k)[i]? = some (.int .u8 ((bkZ F n k).getD i 0)) := by
  rw [bkZ_at F n k i hi, bkR]
  by_cases h : i < 16 * k
  · rw [if_pos h, List.getElem?_append_left (by rw [bkL_len]; exact h)]
    have q := bkL_at F k (i / 16) (i % 16) (by omega) (by omega)
    rw [show 16 * (i / 16) + i % 16 = i by omega] at q
    exact q
  · rw [if_neg h, List.getElem?_append_right (by rw [bkL_len]; omega), bkL_len, List.getElem?_replicate, if_pos (by omega)]
theorem cutV_of {zs : List Int} {j : Nat} {v : BitVec 128} (h : ∀ i, i < 16 → zs.getD (16 * j + i) 0 = ((Fd.byV v i : Nat) : Int)) : cutV zs j = v := by
  have e : cutV zs j = BitVec.ofNat 128 (Fd.pk (fun i => Fd.byV v i) 16) := by
    unfold cutV
    rw [pk_congr _ (fun i => Fd.byV v i) 16 fun i hi => by unfold nat8; rw [h i hi]; simp]
  rw [e]
  apply Fd.ext_bytes
  intro i hi
  exact Fd.byV_pk _ (fun i => Fd.byV_lt v i) i hi
theorem cutV_bkZ (F : Nat → BitVec 128) (n k j : Nat) (hk : 16 * k ≤ n) (hj : j < k) : cutV (bkZ F n k) j = F j := cutV_of fun i hi => by
  rw [bkZ_at F n k _ (by omega), if_pos (by omega), show (16 * j + i) / 16 = j by omega, show (16 * j + i) % 16 = i by omega]
/-- A block that steals: the rest of a list, filled up. -/
def stB (zs : List Int) (k r : Nat) (q : BitVec 128) : BitVec 128 := BitVec.ofNat 128 (Fd.pk (fun i => if i < r then nat8 zs (16 * k + i) else Fd.byV q i) 16)
theorem stB_at {zs : List Int} (hb : AllBytes zs) (k r : Nat) (q : BitVec 128) (i : Nat) (hi : i < 16) : Fd.byV (stB zs k r q) i = if i < r then nat8 zs (16 * k + i) else Fd.byV q i := by
  rw [stB, Fd.byV_pk _ (fun i => by split; exact nat8_lt hb _; exact Fd.byV_lt _ _) i hi]
theorem stB_cells {zs : List Int} (hb : AllBytes zs) (k r : Nat) (q : BitVec 128) (hl : zs.length = 16 * k + r) (hr : r < 16) : splice (Fd.BL q) 0 (cellsU8 (zs.drop (16 * k))) = Fd.BL (stB zs k r q) := by
  have hlen : (cellsU8 (zs.drop (16 * k))).length = r := by simp [cellsU8]; omega
  apply List.ext_getElem?
  intro i
  by_cases hi : i < 16
  · rw [Fd.BL_at _ i hi, stB_at hb k r q i hi]
    simp only [splice, List.take_zero, List.nil_append, hlen, Nat.zero_add]
    by_cases h : i < r
    · rw [if_pos h, List.getElem?_append_left (by omega)]
      have : i + 16 * k < zs.length := by omega
      simp [cellsU8, List.getElem?_drop, List.getElem?_eq_getElem (show 16 * k + i < zs.length by omega)]
      have q := nat8_eq hb (16 * k + i)
      rw [List.getD_eq_getElem?_getD, List.getElem?_eq_getElem (show 16 * k + i < zs.length by omega)] at q
      simpa using q.symm
    · rw [if_neg h, List.getElem?_append_right (by omega), hlen, List.getElem?_drop, show r + (i - r) = i by omega, Fd.BL_at _ i hi]
  · have hl16 : (splice (Fd.BL q) 0 (cellsU8 (zs.drop (16 * k)))).length = 16 := by
      simp only [splice, List.take_zero, List.nil_append, List.length_append, List.length_drop, hlen, Fd.BL_length]
      omega
    rw [List.getElem?_eq_none (by rw [hl16]; omega), List.getElem?_eq_none (by rw [Fd.BL_length]; omega)]
/-- What masked answers. -/
def mskF (E : BitVec 128 → BitVec 128) (f : Nat → BitVec 128) (zs : List Int) (j : Nat) : BitVec 128 := E (cutV zs j ^^^ f j) ^^^ f j
def mskY (E : BitVec 128 → BitVec 128) (f : Nat → BitVec 128) (zs : List Int) (k : Nat) : BitVec 128 := E (stB zs k (zs.length - 16 * k) (mskF E f zs (k - 1)) ^^^ f k) ^^^ f k
def mskL (E : BitVec 128 → BitVec 128) (f : Nat → BitVec 128) (zs : List Int) (k : Nat) : List Value :=
  if zs.length = 16 * k then bkL (mskF E f zs) k else splice (bkL (mskF E f zs) k ++ (Fd.BL (mskF E f zs (k - 1))).take (zs.length - 16 * k)) (16 * (k - 1)) (Fd.BL (mskY E f zs k))
/-- Outside memory nothing changed. -/
structure Ot (w u : World) : Prop where
  os : u.os = w.os
  tape : u.tape = w.tape
  output : u.output = w.output
  size : w.heap.size ≤ u.heap.size
theorem Ot.of_bwi {J : Nat → World → Prop} {F : Nat → BitVec 128} {n : Nat} {w u : World} {k : Nat} (h : BwI J F n w u k) : Ot w u := ⟨h.os, h.tape, h.output, h.size⟩
theorem Ot.below {w u v : World} {B : Nat} (h : Ot w u) (hb : Below B u v) : Ot w v := ⟨hb.os.trans h.os, hb.tape.trans h.tape, hb.output.trans h.output, Nat.le_trans h.size hb.size⟩
theorem Ot.gb {w u v : World} {g : Option Nat} (h : Ot w u) (hb : u.grownBy v g) : Ot w v := ⟨hb.os.trans h.os, hb.tape.trans h.tape, hb.output.trans h.output, Nat.le_trans h.size hb.size⟩
theorem Ot.gk {w u v : World} {Ks : Nat → Prop} (h : Ot w u) (hb : Gk Ks u v) : Ot w v := ⟨hb.os.trans h.os, hb.tape.trans h.tape, hb.output.trans h.output, Nat.le_trans h.size hb.size⟩
/-- What masked keeps. -/
def MdJ (Ks : Nat → Prop) (I : World → Prop) (fn sh p q r n c : Nat) (f : Nat → BitVec 128) (b off : Nat) (zs : List Int) (w1 : World) (_ : Nat) (u : World) : Prop :=
  MkX Ks I fn sh p q r 0 n c f u ∧ (∀ i, i < zs.length → u.cell? ⟨b, off + i, none⟩ = some (.int .u8 (zs.getD i 0))) ∧ (∀ c, c < w1.heap.size → ¬ Ks c → u.heap[c]? = w1.heap[c]?)
theorem MdJ.low {B B1 : Nat} {Ks : Nat → Prop} {I : World → Prop} (hC : Cst B Ks I) (hB : B ≤ B1) {fn sh p q r n c : Nat} {f : Nat → BitVec 128} {b off : Nat} {zs : List Int} {w1 : World} (hs : w1.heap.size = B1) (hp : p < B1) (hq : q < B1) (hr : r < B1) (hb : b < B1) : LowJ B1 (MdJ Ks I fn sh p q r n c f b off zs w1) := by
  intro k u u' h hz hk hsz
  obtain ⟨h1, h2, h3⟩ := h
  have cc : ∀ b o x, b < B1 → u.cell? ⟨b, o, none⟩ = some x → u'.cell? ⟨b, o, none⟩ = some x := fun b o x hb hx => by
    rw [World.cell?_of_block (a := ⟨b, o, none⟩) (hk b hb)]; exact hx
  refine ⟨⟨hC.stay u u' h1.inv (fun c hc => hk c (by omega)) hsz, cc _ _ _ hp h1.cp, cc _ _ _ hq h1.cq, fun j hj i x hx => cc _ _ _ hr (h1.rg j hj i x hx), h1.n2, h1.n3, h1.n4⟩, fun i hi => cc _ _ _ hb (h2 i hi), ?_⟩
  exact fun c hc hn => (hk c (by omega)).trans (h3 c hc hn)
set_option maxHeartbeats 3200000 in
set_option maxRecDepth 100000 in
theorem maskedx_whole {B : Nat} {Ks : Nat → Prop} {I : World → Prop} (hC : Cst B Ks I) (fn sh : Nat) (hE : ∀ args u, (callFunc fn args).run Tryz.prog u = .ok (.enter fn args) u) (E : BitVec 128 → BitVec 128) (r n c : Nat) (f : Nat → BitVec 128) (b off cp k : Nat) (zs : List Int) (w : World) (hI : I w) (HDO : DoI Ks I fn (.pointer (some ⟨sh, 0, none⟩)) E) (rg : ∀ j, j < n → w.rangeAt r (0 + j * 16) (Fd.BL (f j))) (n4 : ¬ Ks r) (hnc : n ≤ c)
    (hk0 : 0 < k) (hl : zs.length = 16 * k) (hl3 : zs.length ≤ 4096) (hkn : zs.length ≤ 16 * n) (hc1 : zs.length ≤ cp) (hb : AllBytes zs) (hbg : ¬ Ks b) (hz : ∀ i, i < zs.length → w.cell? ⟨b, off + i, none⟩ = some (.int .u8 (zs.getD i 0))) :
    Calls Tryz.prog 229 #[.slice (some ⟨b, off, none⟩) zs.length cp, .slice (some ⟨r, 0, none⟩) n c, .func (.func fn) #[.pointer (some ⟨sh, 0, none⟩)] #[]] w fun e w' => Hid (∃ x, e = .returned (.slice (some ⟨x, 0, none⟩) zs.length zs.length) ∧ w.heap.size ≤ x ∧ Bx w' x 5 (mskL E f zs k) ∧ I w' ∧ Gk Ks w w') := by
  obtain ⟨w1, hw1⟩ : ∃ w1, w1 = (w.alloc (.cells #[.slice (some ⟨r, 0, none⟩) n c] 237)).alloc (.cells #[.func (.func fn) #[.pointer (some ⟨sh, 0, none⟩)] #[]] 52) := ⟨_, rfl⟩
  have hBw : B ≤ w.heap.size := hC.size w hI
  have hb1 : Below w.heap.size w w1 := by rw [hw1]; exact ((Below.refl _ _).alloc (Nat.le_refl _) _).alloc (by simp) _
  have hs1 : w1.heap.size = w.heap.size + 2 := by rw [hw1]; simp
  have cc : ∀ b o x, w.cell? ⟨b, o, none⟩ = some x → w1.cell? ⟨b, o, none⟩ = some x := fun b o x hx => (hb1.cell (World.block_lt_of_cell? w _ hx)).trans hx
  have HM : Hid (MkX Ks I fn sh (w.heap.size + 1) w.heap.size r 0 n c f w1) := by
    have c2 : Bx w1 w.heap.size 237 [.slice (some ⟨r, 0, none⟩) n c] := by rw [hw1]; exact (Bx.new w 237 [.slice (some ⟨r, 0, none⟩) n c]).below ((Below.refl _ _).alloc (Nat.le_refl _) _)
    have c3 : Bx w1 (w.heap.size + 1) 52 [.func (.func fn) #[.pointer (some ⟨sh, 0, none⟩)] #[]] := by rw [hw1]; have q := Bx.new (w.alloc (.cells #[.slice (some ⟨r, 0, none⟩) n c] 237)) 52 [.func (.func fn) #[.pointer (some ⟨sh, 0, none⟩)] #[]]; simpa using q
    exact ⟨hC.below hI hb1, c3.cell 0 _ rfl, c2.cell 0 _ rfl, fun j hj i x hx => cc _ _ _ (rg j hj i x hx), hC.new (by omega), hC.new hBw, n4⟩
  have hrl : r < w.heap.size := World.block_lt_of_cell? w _ (rg 0 (by omega) 0 _ (Fd.BL_at _ 0 (by decide)))
  have hbl : b < w.heap.size := World.block_lt_of_cell? w _ (hz 0 (by omega))
  obtain ⟨J, HJ⟩ : ∃ J, Hid (J = MdJ Ks I fn sh (w.heap.size + 1) w.heap.size r n c f b off zs w1) := ⟨_, rfl⟩
  have hLow : LowJ w1.heap.size J := by rw [HJ.out]; exact MdJ.low hC (by omega) rfl (by omega) (by omega) (by omega) (by omega)
  have hJ0 : J 0 w1 := by rw [HJ.out]; exact ⟨HM.out, fun i hi => cc _ _ _ (hz i hi), fun _ _ _ => rfl⟩
  obtain ⟨F, HF⟩ : ∃ F, Hid (F = mskF E f zs) := ⟨_, rfl⟩
  have HK : Hid (∀ j v u, j < n → J 0 u → w1.heap.size ≤ u.heap.size → Calls Tryz.prog 243 #[.int .i64 (j : Nat), Fd.BV v, .pointer (some ⟨w.heap.size + 1, 0, none⟩), .pointer (some ⟨w.heap.size, 0, none⟩)] u fun e w' => Hid (e = .returned (Fd.BV (E (v ^^^ f j) ^^^ f j)) ∧ J 0 w' ∧ Gk Ks u w')) := fun j v u hj hu hsz => by
    rw [HJ.out] at hu ⊢
    obtain ⟨h1, h2, h3⟩ := hu
    refine (maskx_ok hC fn sh _ _ r 0 n c j hE E f v u HDO h1 hj hnc).mono ?_
    intro e w' hh
    obtain ⟨rfl, k1, k2⟩ := hh.out
    exact ⟨rfl, ⟨k1, fun i hi => k2.cell hbg (h2 i hi), fun c hc hn => (k2.block c (by omega) hn).trans (h3 c hc hn)⟩, k2⟩
  have hJc : ∀ j u, J j u → J 0 u := fun j u h => by rw [HJ.out] at h ⊢; exact h
  have hJd : ∀ j u, J 0 u → J j u := fun j u h => by rw [HJ.out] at h ⊢; exact h
  have HB : Hid (Calls Tryz.prog 211 #[.slice (some ⟨b, off, none⟩) zs.length cp, .func (.func 243) #[] #[.pointer (some ⟨w.heap.size + 1, 0, none⟩), .pointer (some ⟨w.heap.size, 0, none⟩)]] w1 fun e w' => Hid (e = .returned (.slice (some ⟨w1.heap.size, 0, none⟩) zs.length zs.length) ∧ BwI J F zs.length w1 w' k)) := by
    refine blockwise2 243 (w.heap.size + 1) w.heap.size (fun args w => enter_ok Tryz.func243 (by rfl) (by rfl) args w) J F b off cp k zs w1 hLow hJ0 (by omega) (by omega) hl3 hc1 hb (fun j u h i hi => by rw [HJ.out] at h; exact h.2.1 i hi) (fun j u hj h hsz => ?_)
    refine (HK.out j (cutV zs j) u (by omega) (hJc j u h) hsz).mono ?_
    intro e w' hh
    obtain ⟨rfl, k1, k2⟩ := hh.out
    exact ⟨by rw [HF.out]; rfl, hJd _ _ k1, Kp.of_gk k2 (fun c hc => by have := hC.low c hc; omega)⟩
  have HEQ : Hid (zs.length = 16 * k) := hl
  obtain ⟨N, HNL⟩ : ∃ n, Hid (zs.length = n) := ⟨_, rfl⟩
  have HN : Hid (N < 16 * k + 16 ∧ 16 * k ≤ N ∧ N ≤ cp ∧ N ≤ 4096 ∧ 0 < k ∧ N ≤ 16 * n) := by rw [← HNL.out]; exact ⟨by omega, by omega, hc1, hl3, hk0, hkn⟩
  rw [HNL.out] at HB ⊢
  obtain ⟨Y, HY⟩ : ∃ Y, Hid (Y = mskL E f zs k) := ⟨_, rfl⟩
  rw [← HY.out]
  have q1 : (N : Int).tdiv 16 = (k : Int) := by rw [Int.tdiv_eq_ediv_of_nonneg (by omega)]; have := HN.out; omega
  have q3 : IntKind.i64.wrap (k : Int) = (k : Int) := by rw [IntKind.wrap_i64]; have := HN.out; omega
  have q4 : (N : Int) / 16 = (k : Int) := by have := HN.out; omega
  have HJF : Hid (∀ u, BwI J F N w1 u k → I u ∧ Gk Ks w u) := fun u hu => by
    have h := hu.inv
    rw [HJ.out] at h
    refine ⟨h.1.inv, ⟨hu.os.trans hb1.os, hu.tape.trans hb1.tape, hu.output.trans hb1.output, Nat.le_trans hb1.size hu.size, fun c hc hn => (h.2.2 c (by omega) hn).trans (hb1.block c hc)⟩⟩
  have q5 : IntKind.i64.wrap ((k : Int) * 16) = (N : Int) := by rw [IntKind.wrap_i64]; have := HEQ.out; have := HNL.out; omega
  obtain ⟨y, d, hsl⟩ : ∃ y d, sliced (some ⟨b, off, none⟩) N N cp 1 = .slice y 0 d := ⟨_, _, by unfold sliced; rw [Nat.sub_self]⟩
  have hS : ∀ u : World, (Instr.slice 22 (.slice (some ⟨b, off, none⟩) N cp) (some (.int .i64 (N : Nat))) none none).run Tryz.prog u = .ok (.slice y 0 d) u := fun u => by
    rw [slice_l u (some ⟨b, off, none⟩) N cp N (Nat.le_refl _) HN.out.2.2.1, hsl]
  have HYF : Hid (Y = bkR F N k) := by
    show _ = _
    rw [HY.out, mskL, if_pos HEQ.out, HF.out, bkR_end _ N k (by rw [← HNL.out]; exact HEQ.out)]
  clear hsl hI HDO rg n4 hnc hk0 hl hl3 hkn hc1 hb hbg hz hb1 cc HM hrl hbl hLow hJ0 hJc hJd HK hBw
  go_enter Tryz.func229, Tryz.ntmps229
  go_upto_region 2 with fail
  rw [← hw1]
  clear hw1
  go_wp2_with (first
    | (go_at_call 211; refine HB.out.mono ?_; intro e2 w2 hh; obtain ⟨rfl, h2⟩ := hh.out; have HX : Hid (BwI J F N w1 w2 k) := h2; clear hh h2 HB))
  go_ret
  refine ⟨_, rfl, by omega, ?_, (HJF.out _ HX.out).1, (HJF.out _ HX.out).2⟩
  have z := HX.out.row
  rw [hs1, ← HYF.out] at z
  exact z
set_option maxHeartbeats 3200000 in
set_option maxRecDepth 100000 in
theorem maskedx_rest {B : Nat} {Ks : Nat → Prop} {I : World → Prop} (hC : Cst B Ks I) (fn sh : Nat) (hE : ∀ args u, (callFunc fn args).run Tryz.prog u = .ok (.enter fn args) u) (E : BitVec 128 → BitVec 128) (r n c : Nat) (f : Nat → BitVec 128) (b off cp k : Nat) (zs : List Int) (w : World) (hI : I w) (HDO : DoI Ks I fn (.pointer (some ⟨sh, 0, none⟩)) E) (rg : ∀ j, j < n → w.rangeAt r (0 + j * 16) (Fd.BL (f j))) (n4 : ¬ Ks r) (hnc : n ≤ c)
    (hk0 : 0 < k) (hl1 : 16 * k < zs.length) (hl2 : zs.length < 16 * k + 16) (hl3 : zs.length ≤ 4096) (hkn : zs.length ≤ 16 * n) (hc1 : zs.length ≤ cp) (hb : AllBytes zs) (hbg : ¬ Ks b) (hz : ∀ i, i < zs.length → w.cell? ⟨b, off + i, none⟩ = some (.int .u8 (zs.getD i 0))) :
    Calls Tryz.prog 229 #[.slice (some ⟨b, off, none⟩) zs.length cp, .slice (some ⟨r, 0, none⟩) n c, .func (.func fn) #[.pointer (some ⟨sh, 0, none⟩)] #[]] w fun e w' => Hid (∃ x, e = .returned (.slice (some ⟨x, 0, none⟩) zs.length zs.length) ∧ w.heap.size ≤ x ∧ Bx w' x 5 (mskL E f zs k) ∧ I w' ∧ Gk Ks w w') := by
  obtain ⟨w1, hw1⟩ : ∃ w1, w1 = (w.alloc (.cells #[.slice (some ⟨r, 0, none⟩) n c] 237)).alloc (.cells #[.func (.func fn) #[.pointer (some ⟨sh, 0, none⟩)] #[]] 52) := ⟨_, rfl⟩
  have hBw : B ≤ w.heap.size := hC.size w hI
  have hb1 : Below w.heap.size w w1 := by rw [hw1]; exact ((Below.refl _ _).alloc (Nat.le_refl _) _).alloc (by simp) _
  have hs1 : w1.heap.size = w.heap.size + 2 := by rw [hw1]; simp
  have cc : ∀ b o x, w.cell? ⟨b, o, none⟩ = some x → w1.cell? ⟨b, o, none⟩ = some x := fun b o x hx => (hb1.cell (World.block_lt_of_cell? w _ hx)).trans hx
  have HM : Hid (MkX Ks I fn sh (w.heap.size + 1) w.heap.size r 0 n c f w1) := by
    have c2 : Bx w1 w.heap.size 237 [.slice (some ⟨r, 0, none⟩) n c] := by rw [hw1]; exact (Bx.new w 237 [.slice (some ⟨r, 0, none⟩) n c]).below ((Below.refl _ _).alloc (Nat.le_refl _) _)
    have c3 : Bx w1 (w.heap.size + 1) 52 [.func (.func fn) #[.pointer (some ⟨sh, 0, none⟩)] #[]] := by rw [hw1]; have q := Bx.new (w.alloc (.cells #[.slice (some ⟨r, 0, none⟩) n c] 237)) 52 [.func (.func fn) #[.pointer (some ⟨sh, 0, none⟩)] #[]]; simpa using q
    exact ⟨hC.below hI hb1, c3.cell 0 _ rfl, c2.cell 0 _ rfl, fun j hj i x hx => cc _ _ _ (rg j hj i x hx), hC.new (by omega), hC.new hBw, n4⟩
  have hrl : r < w.heap.size := World.block_lt_of_cell? w _ (rg 0 (by omega) 0 _ (Fd.BL_at _ 0 (by decide)))
  have hbl : b < w.heap.size := World.block_lt_of_cell? w _ (hz 0 (by omega))
  obtain ⟨J, HJ⟩ : ∃ J, Hid (J = MdJ Ks I fn sh (w.heap.size + 1) w.heap.size r n c f b off zs w1) := ⟨_, rfl⟩
  have hLow : LowJ w1.heap.size J := by rw [HJ.out]; exact MdJ.low hC (by omega) rfl (by omega) (by omega) (by omega) (by omega)
  have hJ0 : J 0 w1 := by rw [HJ.out]; exact ⟨HM.out, fun i hi => cc _ _ _ (hz i hi), fun _ _ _ => rfl⟩
  obtain ⟨F, HF⟩ : ∃ F, Hid (F = mskF E f zs) := ⟨_, rfl⟩
  have HK : Hid (∀ j v u, j < n → J 0 u → w1.heap.size ≤ u.heap.size → Calls Tryz.prog 243 #[.int .i64 (j : Nat), Fd.BV v, .pointer (some ⟨w.heap.size + 1, 0, none⟩), .pointer (some ⟨w.heap.size, 0, none⟩)] u fun e w' => Hid (e = .returned (Fd.BV (E (v ^^^ f j) ^^^ f j)) ∧ J 0 w' ∧ Gk Ks u w')) := fun j v u hj hu hsz => by
    rw [HJ.out] at hu ⊢
    obtain ⟨h1, h2, h3⟩ := hu
    refine (maskx_ok hC fn sh _ _ r 0 n c j hE E f v u HDO h1 hj hnc).mono ?_
    intro e w' hh
    obtain ⟨rfl, k1, k2⟩ := hh.out
    exact ⟨rfl, ⟨k1, fun i hi => k2.cell hbg (h2 i hi), fun c hc hn => (k2.block c (by omega) hn).trans (h3 c hc hn)⟩, k2⟩
  have hJc : ∀ j u, J j u → J 0 u := fun j u h => by rw [HJ.out] at h ⊢; exact h
  have hJd : ∀ j u, J 0 u → J j u := fun j u h => by rw [HJ.out] at h ⊢; exact h
  have HB : Hid (Calls Tryz.prog 211 #[.slice (some ⟨b, off, none⟩) zs.length cp, .func (.func 243) #[] #[.pointer (some ⟨w.heap.size + 1, 0, none⟩), .pointer (some ⟨w.heap.size, 0, none⟩)]] w1 fun e w' => Hid (e = .returned (.slice (some ⟨w1.heap.size, 0, none⟩) zs.length zs.length) ∧ BwI J F zs.length w1 w' k)) := by
    refine blockwise2 243 (w.heap.size + 1) w.heap.size (fun args w => enter_ok Tryz.func243 (by rfl) (by rfl) args w) J F b off cp k zs w1 hLow hJ0 (by omega) (by omega) hl3 hc1 hb (fun j u h i hi => by rw [HJ.out] at h; exact h.2.1 i hi) (fun j u hj h hsz => ?_)
    refine (HK.out j (cutV zs j) u (by omega) (hJc j u h) hsz).mono ?_
    intro e w' hh
    obtain ⟨rfl, k1, k2⟩ := hh.out
    exact ⟨by rw [HF.out]; rfl, hJd _ _ k1, Kp.of_gk k2 (fun c hc => by have := hC.low c hc; omega)⟩
  have HEQ : Hid (¬ zs.length = 16 * k) := (by omega : ¬ zs.length = 16 * k)
  obtain ⟨N, HNL⟩ : ∃ n, Hid (zs.length = n) := ⟨_, rfl⟩
  have HN : Hid (N < 16 * k + 16 ∧ 16 * k ≤ N ∧ N ≤ cp ∧ N ≤ 4096 ∧ 0 < k ∧ N ≤ 16 * n) := by rw [← HNL.out]; exact ⟨by omega, by omega, hc1, hl3, hk0, hkn⟩
  rw [HNL.out] at HB ⊢
  obtain ⟨Y, HY⟩ : ∃ Y, Hid (Y = mskL E f zs k) := ⟨_, rfl⟩
  rw [← HY.out]
  have q1 : (N : Int).tdiv 16 = (k : Int) := by rw [Int.tdiv_eq_ediv_of_nonneg (by omega)]; have := HN.out; omega
  have q3 : IntKind.i64.wrap (k : Int) = (k : Int) := by rw [IntKind.wrap_i64]; have := HN.out; omega
  have q4 : (N : Int) / 16 = (k : Int) := by have := HN.out; omega
  have HJF : Hid (∀ u, BwI J F N w1 u k → I u ∧ Gk Ks w u) := fun u hu => by
    have h := hu.inv
    rw [HJ.out] at h
    refine ⟨h.1.inv, ⟨hu.os.trans hb1.os, hu.tape.trans hb1.tape, hu.output.trans hb1.output, Nat.le_trans hb1.size hu.size, fun c hc hn => (h.2.2 c (by omega) hn).trans (hb1.block c hc)⟩⟩
  obtain ⟨rr, HRR⟩ : ∃ r, Hid (N - 16 * k = r) := ⟨_, rfl⟩
  obtain ⟨o16, HO⟩ : ∃ o, Hid (16 * k = o) := ⟨_, rfl⟩
  obtain ⟨km, HKM⟩ : ∃ o, Hid (k - 1 = o) := ⟨_, rfl⟩
  have HRL : Hid (0 < rr ∧ rr < 16 ∧ N = o16 + rr ∧ k = km + 1 ∧ o16 = 16 * k) := by have := HRR.out; have := HN.out; have := HO.out; have := HKM.out; have := HEQ.out; have := HNL.out; exact ⟨by omega, by omega, by omega, by omega, by omega⟩
  have q5 : IntKind.i64.wrap ((k : Int) * 16) = (o16 : Int) := by rw [IntKind.wrap_i64]; have := HRL.out; have := HN.out; omega
  have q6 : IntKind.i64.wrap ((k : Int) - 1) = (km : Int) := by rw [IntKind.wrap_i64]; have := HRL.out; have := HN.out; omega
  have g0 : (0 : Int) < (rr : Int) := by have := HRL.out; omega
  have hS : ∀ u : World, (Instr.slice 22 (.slice (some ⟨b, off, none⟩) N cp) (some (.int .i64 (o16 : Nat))) none none).run Tryz.prog u = .ok (.slice (some ⟨b, off + o16, none⟩) rr (cp - o16)) u := fun u => by
    rw [slice_l u (some ⟨b, off, none⟩) N cp o16 (by have := HRL.out; omega) HN.out.2.2.1, sliced, if_neg (by have := HRL.out; have := HN.out; omega), Option.map_some, Nat.mul_one, Addr.add_mid, show N - o16 = rr by have := HRL.out; omega]
  have hS2 : ∀ (u : World) (x : Nat), (Instr.slice 22 (.slice (some ⟨x, 0, none⟩) N N) (some (.int .i64 (o16 : Nat))) none none).run Tryz.prog u = .ok (.slice (some ⟨x, o16, none⟩) rr rr) u := fun u x => by
    rw [slice_l u (some ⟨x, 0, none⟩) N N o16 (by have := HRL.out; omega) (Nat.le_refl _), sliced, if_neg (by have := HRL.out; have := HN.out; omega), Option.map_some, Nat.mul_one, Addr.add_mid, show N - o16 = rr by have := HRL.out; omega, Nat.zero_add]
  obtain ⟨LF, HLF⟩ : ∃ L, Hid (L = Fd.BL (F km)) := ⟨_, rfl⟩
  obtain ⟨xb, HXB⟩ : ∃ v, Hid (v = stB zs k rr (F km)) := ⟨_, rfl⟩
  obtain ⟨LX, HLX⟩ : ∃ L, Hid (L = Fd.BL xb) := ⟨_, rfl⟩
  obtain ⟨yb, HYB⟩ : ∃ v, Hid (v = E (xb ^^^ f k) ^^^ f k) := ⟨_, rfl⟩
  obtain ⟨cs, HCS⟩ : ∃ L, Hid (L = cellsU8 (zs.drop (16 * k))) := ⟨_, rfl⟩
  have HLL : Hid (LF.length = 16 ∧ (∀ x ∈ LF, x.oneCell' = true) ∧ cs.length = rr ∧ (∀ x ∈ cs, x.oneCell' = true) ∧ splice LF 0 cs = LX ∧ LX.length = 16) := by
    rw [HLF.out, HCS.out, HLX.out, HXB.out]
    refine ⟨Fd.BL_length _, BL_one8 _, ?_, ?_, stB_cells hb k rr (F km) (by have := HRL.out; have := HNL.out; omega) HRL.out.2.1, Fd.BL_length _⟩
    · simp [cellsU8]; have := HRL.out; have := HNL.out; omega
    · intro v hv
      simp only [cellsU8, List.mem_map] at hv
      obtain ⟨z, _, rfl⟩ := hv
      rfl
  have HCUT : Hid (∀ u, Bx u w1.heap.size 5 (bkR F N k) → Calls Tryz.prog 197 #[.slice (some ⟨w1.heap.size, 0, none⟩) N N, .int .i64 (km : Nat)] u fun e w' => Hid (e = .returned (.agg LF.toArray) ∧ Below u.heap.size u w')) := fun u hu => by
    have q := cut_ok w1.heap.size 0 N km (bkZ F N k) u (by rw [bkZ_len]; have := HRL.out; have := HN.out; omega) (by rw [bkZ_len]; exact Nat.le_refl _) (by rw [bkZ_len]; have := HN.out; omega) (bkZ_bytes F N k) (fun i hi => by
      rw [bkZ_len] at hi
      rw [Nat.zero_add]
      exact hu.cell i _ (bkR_at F N k i HN.out.2.1 hi))
    rw [bkZ_len, cutV_bkZ F N k km HN.out.2.1 (by have := HRL.out; omega)] at q
    rw [HLF.out]
    exact q
  have HMK : Hid (∀ u, J 0 u → w1.heap.size ≤ u.heap.size → Calls Tryz.prog 243 #[.int .i64 (k : Nat), .agg LX.toArray, .pointer (some ⟨w.heap.size + 1, 0, none⟩), .pointer (some ⟨w.heap.size, 0, none⟩)] u fun e w' => Hid (e = .returned (Fd.BV yb) ∧ J 0 w' ∧ Gk Ks u w')) := fun u hu hsz => by
    rw [HLX.out, HYB.out]; exact HK.out k xb u (by have := HRL.out; have := HN.out; omega) hu hsz
  have HJZ : Hid (∀ u, J 0 u → ∀ i x, cs[i]? = some x → u.cell? ((⟨b, off + o16, none⟩ : Addr).add i) = some x) := fun u hu i x hx => by
    rw [HJ.out] at hu
    have hi : i < rr := by have := (List.getElem?_eq_some_iff.1 hx).1; have := HLL.out.2.2.1; omega
    have hlt : 16 * k + i < zs.length := by have := HRL.out; have := HNL.out; omega
    rw [HCS.out] at hx
    simp only [cellsU8, List.getElem?_map, List.getElem?_drop, List.getElem?_eq_getElem hlt, Option.map_some, Option.some.injEq] at hx
    subst hx
    rw [Addr.add_mid, show off + o16 + i = off + (16 * k + i) by have := HRL.out; omega, hu.2.1 _ hlt, List.getD_eq_getElem?_getD, List.getElem?_eq_getElem hlt]
    rfl
  have HY2 : Hid (splice (splice (bkR F N k) o16 (LF.take rr)) (16 * km) (Fd.BL yb) = Y) := by
    show _ = _
    rw [HY.out, mskL, if_neg HEQ.out, HNL.out, HKM.out, ← HF.out, mskY, HNL.out, HRR.out, HKM.out, ← HF.out, ← HXB.out, ← HYB.out, ← HLF.out]
    have e : splice (bkR F N k) o16 (LF.take rr) = bkL F k ++ LF.take rr := by
      have hlt : (LF.take rr).length = rr := by rw [List.length_take, HLL.out.1]; have := HRL.out; omega
      rw [bkR, splice, hlt, List.take_append_of_le_length (by rw [bkL_len]; have := HRL.out; omega), List.take_of_length_le (by rw [bkL_len]; have := HRL.out; omega), List.drop_of_length_le (by rw [List.length_append, bkL_len, List.length_replicate]; have := HRL.out; omega), List.append_nil]
    rw [e]
  have HJG : Hid (∀ u, J 0 u → Ot w1 u → I u ∧ Gk Ks w u) := fun u hu ho => by
    rw [HJ.out] at hu
    exact ⟨hu.1.inv, ⟨ho.os.trans hb1.os, ho.tape.trans hb1.tape, ho.output.trans hb1.output, Nat.le_trans hb1.size ho.size, fun c hc hn => (hu.2.2 c (by omega) hn).trans (hb1.block c hc)⟩⟩
  have HSZ : Hid (B ≤ w.heap.size ∧ w1.heap.size = w.heap.size + 2) := ⟨hBw, hs1⟩
  have hJ0 : True := trivial
  clear hI HDO rg n4 hnc hk0 hl1 hl2 hl3 hkn hc1 hb hbg hz hb1 cc HM hrl hbl hJ0 HK hBw HF
  go_enter Tryz.func229, Tryz.ntmps229
  go_upto_region 2 with fail
  rw [← hw1]
  clear hw1
  obtain ⟨x, HXX⟩ : ∃ x, Hid (w1.heap.size = x) := ⟨_, rfl⟩
  obtain ⟨p, HPP⟩ : ∃ x, Hid (w.heap.size = x) := ⟨_, rfl⟩
  rw [HXX.out] at HB HCUT
  rw [HPP.out] at HB HMK ⊢
  go_upto_region 6 with (first
    | (go_at_call 211; refine HB.out.mono ?_; intro e2 w2 hh; obtain ⟨rfl, h2⟩ := hh.out; have HX : Hid (BwI J F N w1 w2 k) := h2; clear hh h2 HB))
  have HX0 : Hid (J 0 w2 ∧ Bx w2 x 5 (bkR F N k) ∧ w1.heap.size ≤ w2.heap.size) := ⟨hJc _ _ HX.out.inv, by rw [← HXX.out]; exact HX.out.row, HX.out.size⟩
  go_upto_region 7 with (first
    | (go_at_call 197; refine (HCUT.out _ HX0.out.2.1).mono ?_; intro e3 w3 hh; obtain ⟨rfl, hb3⟩ := hh.out; have HB3 : Hid (Below w2.heap.size w2 w3) := hb3; clear hh hb3)
    | (refine wpList_store_bx (by rfl) 27 (.tmp 11) (.tmp 29) (by rfl) ZZ LF w3.heap.size (by rfl) (by rfl) (Bx.new w3 27 ZZ) (by rw [HLL.out.1]; rfl) (by rw [HLL.out.1]; kernel_rfl) HLL.out.2.1 ?_; intro w4 hb4 hg4; have HB4 : Hid (Bx w4 w3.heap.size 27 LF ∧ Below w3.heap.size w3 w4) := ⟨hb4, ((Below.refl _ _).alloc (Nat.le_refl _) _).trans (below_gb hg4 (by simp) (Nat.le_refl _))⟩; clear hb4 hg4))
  obtain ⟨y, HYY⟩ : ∃ x, Hid (w3.heap.size = x) := ⟨_, rfl⟩
  rw [HYY.out] at HB4 ⊢
  have HL4 : Hid (J 0 w4 ∧ Bx w4 x 5 (bkR F N k) ∧ Bx w4 y 27 LF ∧ x < y ∧ w1.heap.size ≤ w4.heap.size) := by
    have s2 := HX0.out.2.2
    have s3 := HB3.out.size
    have s4 := HB4.out.2.size
    have hy := HYY.out
    have hb4 : Below w2.heap.size w2 w4 := HB3.out.trans (HB4.out.2.mono (by omega))
    exact ⟨hLow 0 w2 w4 HX0.out.1 s2 (fun c hc => hb4.block c (by omega)) hb4.size, HX0.out.2.1.below hb4, HB4.out.1, by have := HX0.out.2.1.lt; omega, by omega⟩
  have HO4 : Hid (Ot w1 w4) := (Ot.of_bwi HX.out).below (HB3.out.trans (HB4.out.2.mono (by have := HB3.out.size; have := HYY.out; omega)))
  clear HB3 HB4 HX0 HX
  have HTK : Hid ((LF.take rr).length = Nat.min 16 rr ∧ (∀ x ∈ LF.take rr, x.oneCell' = true) ∧ o16 + (LF.take rr).length ≤ (bkR F N k).length) := by
    have hlt : (LF.take rr).length = rr := by rw [List.length_take, HLL.out.1]; have := HRL.out; omega
    refine ⟨by rw [hlt]; have := HRL.out; exact (Nat.min_eq_right (by omega)).symm, fun v hv => HLL.out.2.1 v (List.mem_of_mem_take hv), ?_⟩
    rw [hlt, bkR_len F N k HN.out.2.1]; have := HRL.out; omega
  have HD4 : Hid (∀ q, Bx (w4.drewN q) x 5 (bkR F N k) ∧ Bx (w4.drewN q) y 27 LF) := fun q => ⟨HL4.out.2.1.below (Below.drewN (Below.refl _ _) _), HL4.out.2.2.1.below (Below.drewN (Below.refl _ _) _)⟩
  go_region_held3 (fun _ => True) (first | trivial | go_keep)
    (first
      | (refine step_copy_gb rfl (.tmp 33) (.tmp 34) rfl Tryz.underlying22 (by kernel_rfl) x o16 rr rr 16 16 ⟨y, 0, none⟩ (by first | rfl | simp) (by first | rfl | simp) (bkR F N k) 5 (by first | exact HL4.out.2.1 | exact (HD4.out 1).1) (LF.take rr) HTK.out.1 (fun i v hv => by rw [Addr.add_mid]; rw [List.getElem?_take] at hv; split at hv <;> first | cases hv | exact HL4.out.2.2.1.range i v hv | exact (HD4.out 1).2.range i v hv) HTK.out.2.2 HTK.out.2.1 ?_; intro w5 HG5 HB5))
  have HL5 : Hid (J 0 w5 ∧ Bx w5 x 5 (splice (bkR F N k) o16 (LF.take rr)) ∧ Bx w5 y 27 LF ∧ Ot w1 w5 ∧ w1.heap.size ≤ w5.heap.size) := by
    have hg : w4.grownBy w5 (some x) := by
      have q := HB5.out
      exact ⟨q.os, q.tape, q.output, q.size, q.block⟩
    have hxy := HL4.out.2.2.2.1
    exact ⟨hLow 0 w4 w5 HL4.out.1 HL4.out.2.2.2.2 (fun c hc => hg.block c (by have := HL4.out.2.2.2.2; omega) (fun e => by injection e with e; have := HXX.out; omega)) hg.size, HG5.out, HL4.out.2.2.1.keep (hg.block y HL4.out.2.2.1.lt (fun e => by injection e with e; omega)), HO4.out.gb hg, Nat.le_trans HL4.out.2.2.2.2 hg.size⟩
  have HXY : Hid (x < y) := HL4.out.2.2.2.1
  clear HG5 HB5 HL4 HD4 HO4
  go_upto_region 9 with (first
    | (refine wpList_copy_splice rfl (.tmp 36) (.tmp 37) 22 22 rfl 5 Tryz.underlying22 (by kernel_rfl) _ _ 16 16 rr _ rfl rfl y 0 LF 27 HL5.out.2.2.1 cs (by rw [HLL.out.2.2.1]; exact (Nat.min_eq_left (by have := HRL.out; omega)).symm) (fun _ => ⟨rfl, _, rfl, HJZ.out w5 HL5.out.1⟩) (by rw [HLL.out.2.2.1, HLL.out.1]; have := HRL.out; omega) HLL.out.2.2.2.1 y w5 (Below.refl _ _) (Nat.le_refl _) ?_; intro w6 HG6 hb6; have HB6 : Hid (Below y w5 w6) := hb6; clear hb6))
  have HL6 : Hid (J 0 w6 ∧ Bx w6 x 5 (splice (bkR F N k) o16 (LF.take rr)) ∧ Bx w6 y 27 LX ∧ Ot w1 w6 ∧ w1.heap.size ≤ w6.heap.size) := by
    have hb := HB6.out
    have hxy := HXY.out
    have q := HG6.out
    rw [HLL.out.2.2.2.2.1] at q
    exact ⟨hLow 0 w5 w6 HL5.out.1 HL5.out.2.2.2.2 (fun c hc => hb.block c (by have := HXX.out; omega)) hb.size, HL5.out.2.1.keep (hb.block x hxy), q, HL5.out.2.2.2.1.below hb, Nat.le_trans HL5.out.2.2.2.2 hb.size⟩
  clear HG6 HB6 HL5
  have HLAY : Hid (∀ u, Bx u x 5 (splice (bkR F N k) o16 (LF.take rr)) → Calls Tryz.prog 234 #[.slice (some ⟨x, 0, none⟩) N N, .int .i64 (km : Nat), Fd.BV yb] u fun e w' => Hid (e = .returned (.tuple #[]) ∧ Bx w' x 5 Y ∧ u.grownBy w' (some x))) := fun u hu => by
    have hlt : (LF.take rr).length = rr := by rw [List.length_take, HLL.out.1]; have := HRL.out; omega
    have q := lay_ok x N N km yb _ u (by have := HRL.out; omega) (Nat.le_refl _) (by have := HN.out; omega) (by simp only [splice, List.length_append, List.length_take, List.length_drop, bkR_len F N k HN.out.2.1, hlt]; have := HRL.out; omega) hu
    rw [HY2.out] at q
    exact q
  go_wp2_with (first
    | (refine wpList_load_mid (by rfl) 27 (.tmp 11) (by rfl) y 0 (by rfl) LX _ HL6.out.2.2.1.range Tryz.underlying27 rfl (by rw [HLL.out.2.2.2.2.2]; kernel_rfl) ?_)
    | (go_at_call 243; refine (HMK.out _ HL6.out.1 HL6.out.2.2.2.2).mono ?_; intro e7 w7 hh; obtain ⟨rfl, hk7, hg7⟩ := hh.out; have HL7 : Hid (J 0 w7 ∧ Bx w7 x 5 (splice (bkR F N k) o16 (LF.take rr)) ∧ Ot w1 w7 ∧ w1.heap.size ≤ w7.heap.size) := ⟨hk7, HL6.out.2.1.gk hg7 (hC.new (by have := HSZ.out; have := HXX.out; omega)), HL6.out.2.2.2.1.gk hg7, Nat.le_trans HL6.out.2.2.2.2 hg7.size⟩; clear hh hk7 hg7 HMK)
    | (go_at_call 234; refine (HLAY.out _ HL7.out.2.1).mono ?_; intro e8 w8 hh; obtain ⟨rfl, hx8, hg8⟩ := hh.out; have HL8 : Hid (J 0 w8 ∧ Bx w8 x 5 Y ∧ Ot w1 w8) := ⟨hLow 0 w7 w8 HL7.out.1 HL7.out.2.2.2 (fun c hc => hg8.block c (by have := HL7.out.2.2.2; omega) (fun e => by injection e with e; have := HXX.out; omega)) hg8.size, hx8, HL7.out.2.2.1.gb hg8⟩; clear hh hx8 hg8 HLAY))
  go_ret
  refine ⟨x, rfl, ?_, HL8.out.2.1, ?_⟩
  · have := HSZ.out; have := HXX.out; have := HPP.out; omega
  · exact HJG.out _ HL8.out.1 HL8.out.2.2
end Go.Proofs.YtehlppaidgkpaaaGreatDoor
namespace Go.Proofs.YtehlppaidgkpaaaGreatDoor
open Go.RowKit
set_option linter.unusedVariables false
set_option linter.unusedSimpArgs false
/-- A list's blocks, a byte 1 behind the last one. -/
def flV (zs : List Int) (j : Nat) : BitVec 128 := cutV (zs ++ [1]) j
end Go.Proofs.YtehlppaidgkpaaaGreatDoor
