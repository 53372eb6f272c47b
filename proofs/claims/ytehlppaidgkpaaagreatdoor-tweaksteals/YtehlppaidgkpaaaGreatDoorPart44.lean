import Derived.Test.YtehlppaidgkpaaaGreatDoorPart43
import Derived.Test.YtehlppaidgkpaaaGreatDoorPart26
import Derived.OwnWalk
namespace Go.Proofs.YtehlppaidgkpaaaGreatDoor
open Go.RowKit
set_option linter.unusedVariables false
set_option linter.unusedSimpArgs false
/-- A store of a whole box, in a region that draws. -/
theorem step_store_bx {P : Program} {ops : Array Oper} {o : Oper} {a : Act} {w : World} {K : Act → World → Prop} {Q : Exit → Act → World → Prop} {E : Prop} (hgd : o.guard = none) (t : TypeId) (x y : Operand) (ho : o.op = .store t x y) {bt : TypeId} (c c' : List Value) (g : Nat) (hx : a.eval x = .pointer (some ⟨g, 0, none⟩)) (hy : a.eval y = .agg c'.toArray)
    (hb : Bx w g bt c) (hl : c'.length = c.length) (hi : (P.info? t).map (·.size) = some c'.length) (h1 : ∀ v ∈ c', v.oneCell' = true) (h : ∀ u, Hid (Bx u g bt c') → Hid (w.grownBy u (some g)) → K (a.put o.dst undef) u) :
    if Region.wanted o (yielded ops a.tmps) = true then Oper.wp P o a w K Q else E := by
  have hw : Region.wanted o (yielded ops a.tmps) = true := by simp [Region.wanted, hgd]
  rw [if_pos hw]
  refine wp_store_mid t x y ho g 0 c'.toArray hx hy (fun j hj => ?_) (by simpa using hi) (all_oneCell_toArray h1) (h _ (hb.store c' hl) (setCells_gb g _ 0 w))
  rw [Nat.zero_add]
  have hj' : j < c.length := by rw [← hl]; simpa using hj
  refine ⟨?_, hb.frozen j⟩
  rw [hb.cell j _ (List.getElem?_eq_getElem hj')]
  rfl
theorem bx_there {w : World} {b : Nat} {t : TypeId} {cs : List Value} (h : Bx w b t cs) {n : Nat} (hn : cs.length = n) : w.there b 0 n := fun j hj => by
  rw [Nat.zero_add]
  refine ⟨?_, h.frozen j⟩
  rw [h.cell j _ (List.getElem?_eq_getElem (by omega))]
  rfl
theorem keep5 {w1 w2 : World} {g m : Nat} {L : List Value} (hg : w1.grownBy w2 (some g)) (h1 : Bx w1 m 27 L) (h2 : Bx w1 (m + 1) 27 ZZ) (hgm : g < m) : Bx w2 m 27 L ∧ Bx w2 (m + 1) 27 ZZ := ⟨h1.keep (hg.block m h1.lt (fun e => by injection e with e; omega)), h2.keep (hg.block (m + 1) h2.lt (fun e => by injection e with e; omega))⟩
theorem keep4 {w2 : World} {g sh m : Nat} {x : Value} {L M : List Value} (hc : w2.cell? ⟨sh, 4, none⟩ = some x) (hs : sh < m) (h1 : Bx w2 m 27 L) (h2 : Bx w2 (m + 1) 27 ZZ) (hM : M.length = 16) : (w2.setCells (m + 1) 0 M).cell? ⟨sh, 4, none⟩ = some x ∧ (w2.setCells (m + 1) 0 M).rangeAt m 0 L ∧ (w2.setCells (m + 1) 0 M).there (m + 1) 0 16 := by
  have hg : w2.grownBy (w2.setCells (m + 1) 0 M) (some (m + 1)) := setCells_gb (m + 1) M 0 w2
  refine ⟨?_, (h1.keep (hg.block m h1.lt (fun e => by injection e with e; omega))).range, bx_there (h2.store M (by rw [hM]; rfl)) hM⟩
  rw [World.cell?_of_block (a := ⟨sh, 4, none⟩) (hg.block sh (by have := h1.lt; omega) (fun e => by injection e with e; omega))]
  exact hc
theorem keep3 {w1 w2 : World} {g sh m : Nat} {x : Value} {L : List Value} (hg : w1.grownBy w2 (some g)) (hne : sh ≠ g) (hc : w1.cell? ⟨sh, 4, none⟩ = some x) (hs : sh < w1.heap.size) (h1 : Bx w1 m 27 L) (h2 : Bx w1 (m + 1) 27 ZZ) (hgm : g < m) : w2.cell? ⟨sh, 4, none⟩ = some x ∧ w2.rangeAt m 0 L ∧ w2.there (m + 1) 0 16 := by
  refine ⟨?_, (h1.keep (hg.block m h1.lt (fun e => by injection e with e; omega))).range, bx_there (h2.keep (hg.block (m + 1) h2.lt (fun e => by injection e with e; omega))) rfl⟩
  rw [World.cell?_of_block (a := ⟨sh, 4, none⟩) (hg.block sh hs (fun e => hne (by injection e)))]
  exact hc
set_option maxHeartbeats 800000 in
set_option maxRecDepth 100000 in
/-- shared.encrypt. -/
theorem encrypt_ok (sh g nr : Nat) (K : Nat → Nat) (v : BitVec 128) (w : World) (hne : sh ≠ g) (hc : w.cell? ⟨sh, 4, none⟩ = some (.pointer (some ⟨g, 0, none⟩))) (h : KeyAt w g nr K) :
    Calls Tryz.prog 190 #[.pointer (some ⟨sh, 0, none⟩), Fd.BV v] w fun e w' => Hid (e = .returned (Fd.BV (encV nr K v)) ∧ KeyAt w' g nr K ∧ w.grownBy w' (some g)) := by
  obtain ⟨L, HL⟩ : ∃ L, Hid (L = Fd.BL v) := ⟨_, rfl⟩
  obtain ⟨M, HM⟩ : ∃ M, Hid (M = Fd.BL (encV nr K v)) := ⟨_, rfl⟩
  have HK : Hid (∀ u, KeyAt u g nr K → Calls Tryz.prog 188 #[.pointer (some ⟨g, 0, none⟩), .agg L.toArray] u fun e w' => Hid (e = .returned (.agg M.toArray) ∧ KeyAt w' g nr K ∧ u.grownBy w' (some g))) := fun u hu => by
    have q := under_ok g nr K v u hu
    rw [HL.out, HM.out]
    exact q
  have HL16 : Hid (L.length = 16 ∧ M.length = 16 ∧ (∀ x ∈ M, x.oneCell' = true)) := by rw [HL.out, HM.out]; exact ⟨rfl, rfl, BL_one8 _⟩
  show Calls Tryz.prog 190 #[_, .agg (Fd.BL v).toArray] w fun e w' => Hid (e = .returned (.agg (Fd.BL (encV nr K v)).toArray) ∧ _)
  rw [← HL.out, ← HM.out]
  obtain ⟨w1, hw1⟩ : ∃ w1, w1 = (w.alloc (.cells L.toArray 27)).alloc (.cells ZZ.toArray 27) := ⟨_, rfl⟩
  have HB1 : Hid (Bx w1 w.heap.size 27 L ∧ Bx w1 (w.heap.size + 1) 27 ZZ ∧ Below w.heap.size w w1 ∧ KeyAt w1 g nr K ∧ g < w.heap.size) := by
    have hb : Below w.heap.size w w1 := by rw [hw1]; exact ((Below.refl _ _).alloc (Nat.le_refl _) _).alloc (by simp) _
    refine ⟨?_, ?_, hb, h.below hb h.ciph.here, h.ciph.here⟩
    · rw [hw1]; exact (Bx.new w 27 L).below ((Below.refl _ _).alloc (Nat.le_refl _) _)
    · rw [hw1]; have q := Bx.new (w.alloc (.cells L.toArray 27)) 27 ZZ; simpa using q
  have HSW : Hid (sh < w.heap.size) := World.block_lt_of_cell? w _ hc
  have c4 : w1.cell? ⟨sh, 4, none⟩ = some (.pointer (some ⟨g, 0, none⟩)) := by rw [HB1.out.2.2.1.cell (World.block_lt_of_cell? w _ hc), hc]
  have hw2 : w1 = (w.alloc (.cells L.toArray 27)).alloc (.cells #[.int .u8 0, .int .u8 0, .int .u8 0, .int .u8 0, .int .u8 0, .int .u8 0, .int .u8 0, .int .u8 0, .int .u8 0, .int .u8 0, .int .u8 0, .int .u8 0, .int .u8 0, .int .u8 0, .int .u8 0, .int .u8 0] 27) := hw1
  clear hw1 h hc
  go_enter Tryz.func190, Tryz.ntmps190
  go_upto_region 1 with fail
  rw [← hw2]
  clear hw2
  obtain ⟨m, HMM⟩ : ∃ m, Hid (w.heap.size = m) := ⟨_, rfl⟩
  rw [HMM.out] at HB1 ⊢
  have HW1 : Hid (m + 1 < w1.heap.size) := HB1.out.2.1.lt
  have HSH : Hid (sh < m) := by rw [← HMM.out]; exact HSW.out
  have KD : Hid (KeyAt w1.drew g nr K) := HB1.out.2.2.2.1.below (Below.refl _ w1).drew (by have := HB1.out.2.2.2.2; have := HW1.out; omega)
  have hU : Tryz.prog.underlying 27 = some (.array 16 5) := Tryz.underlying27
  have hiL : (Tryz.prog.info? 27).map (·.size) = some L.length := by rw [HL16.out.1]; kernel_rfl
  have hiM : (Tryz.prog.info? 27).map (·.size) = some M.length := by rw [HL16.out.2.1]; kernel_rfl
  have hM16 : M.length = 16 := HL16.out.2.1
  have hM1 : ∀ v ∈ M, v.oneCell' = true := HL16.out.2.2
  have hr1 : w1.rangeAt m 0 L := HB1.out.1.range
  have ht1 : w1.there (m + 1) 0 16 := bx_there HB1.out.2.1 rfl
  go_region_held3 (fun u => u.cell? ⟨sh, 4, none⟩ = some (.pointer (some ⟨g, 0, none⟩)) ∧ u.rangeAt m 0 L ∧ u.there (m + 1) 0 16) (first | exact ⟨c4, hr1, ht1⟩ | exact hS2 | exact hS3 | go_keep)
    (first
      | (go_at_call 188; refine (HK.out _ KD.out).mono ?_; intro e2 w2 hh; obtain ⟨rfl, hk2, hg2⟩ := hh.out; have HB2 : Hid (KeyAt w2 g nr K ∧ w1.grownBy w2 (some g)) := ⟨hk2, hg2.os, hg2.tape, hg2.output, hg2.size, hg2.block⟩; have hS2 : w2.cell? ⟨sh, 4, none⟩ = some (.pointer (some ⟨g, 0, none⟩)) ∧ w2.rangeAt m 0 L ∧ w2.there (m + 1) 0 16 := keep3 HB2.out.2 hne c4 (by have := HSH.out; have := HW1.out; omega) HB1.out.1 HB1.out.2.1 HB1.out.2.2.2.2; have HX2 : Hid (Bx w2 m 27 L ∧ Bx w2 (m + 1) 27 ZZ) := keep5 HB2.out.2 HB1.out.1 HB1.out.2.1 HB1.out.2.2.2.2; have hS3 := keep4 (g := g) hS2.1 HSH.out HX2.out.1 HX2.out.2 hM16; clear hh hk2 hg2))
  have HB9 : Hid (Bx (w2.setCells (m + 1) 0 M) (m + 1) 27 M ∧ w2.grownBy (w2.setCells (m + 1) 0 M) (some (m + 1))) := ⟨HX2.out.2.store M (by rw [hM16]; rfl), setCells_gb (m + 1) M 0 w2⟩
  obtain ⟨u9, hu9⟩ : ∃ u9, u9 = w2.setCells (m + 1) 0 M := ⟨_, rfl⟩
  rw [← hu9] at HB9 ⊢
  clear hu9 hS2 hS3
  go_wp2
  have hgm := HB1.out.2.2.2.2
  have hg9 := HB9.out.2
  have hg2 := HB2.out.2
  have hb1 := HB1.out.2.2.1
  have e9 : ∀ k, k < w2.heap.size → k ≠ m + 1 → u9.heap[k]? = w2.heap[k]? := fun k hk hn => hg9.block k hk (fun e => by injection e with e; omega)
  refine ret_agg (b := m + 1) M rfl rfl HB9.out.1.range Tryz.underlying27 rfl hiM ⟨rfl, HB2.out.1.sameK (e9 g (by have := HX2.out.1.lt; omega) (by omega)) hg9.size, ?_⟩
  refine ⟨hg9.os.trans (hg2.os.trans hb1.os), hg9.tape.trans (hg2.tape.trans hb1.tape), hg9.output.trans (hg2.output.trans hb1.output), Nat.le_trans hb1.size (Nat.le_trans hg2.size hg9.size), fun k hk hn => ?_⟩
  have hkm : k < m := by rw [← HMM.out]; exact hk
  rw [e9 k (by have := HX2.out.1.lt; omega) (by omega), hg2.block k (by have := HW1.out; omega) hn, hb1.block k hkm]
end Go.Proofs.YtehlppaidgkpaaaGreatDoor
namespace Go.Proofs.YtehlppaidgkpaaaGreatDoor
open Go.RowKit
set_option linter.unusedVariables false
set_option linter.unusedSimpArgs false
theorem u64_and32 (a : Nat) (ha : a < 18446744073709551616) : bits .and .u64 (a : Int) 4294967295 = ((a % 4294967296 : Nat) : Int) := by
  have h : (BitVec.ofInt 64 4294967295).toNat = 2 ^ 32 - 1 := by decide
  have key : (BitVec.ofInt 64 (a : Int) &&& BitVec.ofInt 64 4294967295).toNat = ((a : Int) % ((2 ^ 64 : Nat) : Int)).toNat % 2 ^ 32 := by
    rw [BitVec.toNat_and, BitVec.toNat_ofInt, h, Nat.and_two_pow_sub_one_eq_mod]
  show IntKind.u64.wrap ((BitVec.ofInt 64 (a : Int) &&& BitVec.ofInt 64 4294967295).toNat : Nat) = _
  rw [key, IntKind.wrap_u64]
  omega
theorem wrap_u64_nat (a : Nat) (h : a < 18446744073709551616) : IntKind.u64.wrap (a : Int) = (a : Int) := by rw [IntKind.wrap_u64]; omega
end Go.Proofs.YtehlppaidgkpaaaGreatDoor
namespace Go.Proofs.YtehlppaidgkpaaaGreatDoor
open Go.RowKit
set_option linter.unusedVariables false
set_option linter.unusedSimpArgs false
/-- Blocks one behind the other. -/
def bkL (F : Nat → BitVec 128) (k : Nat) : List Value := (List.range k).flatMap fun j => Fd.BL (F j)
theorem bkL_succ (F : Nat → BitVec 128) (k : Nat) : bkL F (k + 1) = bkL F k ++ Fd.BL (F k) := by simp [bkL, List.range_succ]
theorem bkL_len (F : Nat → BitVec 128) (k : Nat) : (bkL F k).length = 16 * k := by
  induction k with
  | zero => rfl
  | succ k ih => rw [bkL_succ, List.length_append, ih, Fd.BL_length]; omega
theorem bkL_at (F : Nat → BitVec 128) (k j i : Nat) (hj : j < k) (hi : i < 16) : (bkL F k)[16 * j + i]? = some (.int .u8 (Fd.byV (F j) i : Nat)) := by
  induction k with
  | zero => omega
  | succ k ih =>
    rw [bkL_succ]
    by_cases h : j < k
    · rw [List.getElem?_append_left (by rw [bkL_len]; omega)]; exact ih h
    · obtain rfl : j = k := by omega
      rw [List.getElem?_append_right (by rw [bkL_len]; omega), bkL_len, show 16 * j + i - 16 * j = i by omega, Fd.BL_at _ i hi]
/-- The row between two rounds. -/
def bkR (F : Nat → BitVec 128) (n k : Nat) : List Value := bkL F k ++ List.replicate (n - 16 * k) (.int .u8 0)
theorem bkR_len (F : Nat → BitVec 128) (n k : Nat) (h : 16 * k ≤ n) : (bkR F n k).length = n := by
  rw [bkR, List.length_append, bkL_len, List.length_replicate]; omega
theorem bkR_step (F : Nat → BitVec 128) (n k : Nat) (h : 16 * k + 16 ≤ n) : splice (bkR F n k) (16 * k) (Fd.BL (F k)) = bkR F n (k + 1) := by
  have e1 : (bkR F n k).take (16 * k) = bkL F k := by rw [bkR, List.take_append_of_le_length (by rw [bkL_len]; omega), List.take_of_length_le (by rw [bkL_len]; omega)]
  have e2 : (bkR F n k).drop (16 * k + 16) = List.replicate (n - 16 * (k + 1)) (.int .u8 0) := by
    rw [bkR, List.drop_append, bkL_len, List.drop_of_length_le (by rw [bkL_len]; omega), List.drop_replicate, List.nil_append, show n - 16 * k - (16 * k + 16 - 16 * k) = n - 16 * (k + 1) by omega]
  simp only [splice, Fd.BL_length]
  rw [e1, e2, bkR, bkL_succ]
  simp
theorem bkR_zero (F : Nat → BitVec 128) (n : Nat) : bkR F n 0 = List.replicate n (.int .u8 0) := by simp [bkR, bkL]
theorem bkR_end (F : Nat → BitVec 128) (n k : Nat) (h : n = 16 * k) : bkR F n k = bkL F k := by simp [bkR, h]
theorem own_full {w : World} {base n g : Nat} {e : TypeId} {xs : List Value} (h : w.ownsRow base e 1 (.slice (some ⟨g, 0, none⟩) n n) n xs) : Bx w g e xs := by
  obtain ⟨h1, h2⟩ := h
  rcases h2 with ⟨q, _⟩ | ⟨g', cap, cur, q, _, hh, _, _, hs, ht⟩
  · cases q
  · injection q with q1 q2 q3
    injection q1 with q1
    injection q1 with q1
    subst q1 q3
    have : xs.toArray = cur := by
      rw [← ht, List.take_of_length_le (by simp; omega)]
    unfold Bx; rw [hh, this]
theorem meas_i (j k : Nat) (h : j < k) : k - (intOf (.int .i64 ((j + 1 : Nat) : Int))).toNat < k - (intOf (.int .i64 ((j : Nat) : Int))).toNat := by
  simp [intOf]; omega
end Go.Proofs.YtehlppaidgkpaaaGreatDoor
namespace Go.Proofs.YtehlppaidgkpaaaGreatDoor
open Go.RowKit
set_option linter.unusedVariables false
set_option linter.unusedSimpArgs false
/-- Blocks from B on stay. -/
structure Kp (B : Nat) (u v : World) : Prop where
  os : v.os = u.os
  tape : v.tape = u.tape
  output : v.output = u.output
  size : u.heap.size ≤ v.heap.size
  block : ∀ c, B ≤ c → c < u.heap.size → v.heap[c]? = u.heap[c]?
/-- What a block's function keeps hangs on blocks below B alone. -/
def LowJ (B : Nat) (J : Nat → World → Prop) : Prop := ∀ k u u', J k u → B ≤ u.heap.size → (∀ c, c < B → u'.heap[c]? = u.heap[c]?) → u.heap.size ≤ u'.heap.size → J k u'
/-- blockwise between two rounds. -/
structure BwI (J : Nat → World → Prop) (F : Nat → BitVec 128) (n : Nat) (w wr : World) (k : Nat) : Prop where
  row : Bx wr w.heap.size 5 (bkR F n k)
  inv : J k wr
  os : wr.os = w.os
  tape : wr.tape = w.tape
  output : wr.output = w.output
  size : w.heap.size ≤ wr.heap.size
theorem BwI.below {J : Nat → World → Prop} {F : Nat → BitVec 128} {n : Nat} {w wr u : World} {k : Nat} (h : BwI J F n w wr k) (hJ : LowJ w.heap.size J) (hb : Below wr.heap.size wr u) : BwI J F n w u k :=
  ⟨h.row.below hb, hJ k wr u h.inv h.size (fun c hc => hb.block c (Nat.lt_of_lt_of_le hc h.size)) hb.size, hb.os.trans h.os, hb.tape.trans h.tape, hb.output.trans h.output, Nat.le_trans h.size hb.size⟩
/-- Behind the block's function: the row is as it was. -/
structure BwM (J : Nat → World → Prop) (F : Nat → BitVec 128) (n : Nat) (w wr : World) (k : Nat) : Prop where
  row : Bx wr w.heap.size 5 (bkR F n k)
  inv : J (k + 1) wr
  os : wr.os = w.os
  tape : wr.tape = w.tape
  output : wr.output = w.output
  size : w.heap.size ≤ wr.heap.size
theorem BwI.does {J : Nat → World → Prop} {F : Nat → BitVec 128} {n : Nat} {w wr u : World} {k : Nat} (h : BwI J F n w wr k) (h1 : J (k + 1) u) (hb : Kp w.heap.size wr u) : BwM J F n w u k :=
  ⟨h.row.keep (hb.block _ (Nat.le_refl _) h.row.lt), h1, hb.os.trans h.os, hb.tape.trans h.tape, hb.output.trans h.output, Nat.le_trans h.size hb.size⟩
theorem BwM.lay {J : Nat → World → Prop} {F : Nat → BitVec 128} {n : Nat} {w wr u : World} {k : Nat} (h : BwM J F n w wr k) (hJ : LowJ w.heap.size J) (hk : 16 * k + 16 ≤ n) (h1 : Bx u w.heap.size 5 (splice (bkR F n k) (16 * k) (Fd.BL (F k)))) (hb : wr.grownBy u (some w.heap.size)) : BwI J F n w u (k + 1) := by
  rw [bkR_step F n k hk] at h1
  exact ⟨h1, hJ (k + 1) wr u h.inv h.size (fun c hc => hb.block c (Nat.lt_of_lt_of_le hc h.size) (fun e => by injection e with e; omega)) hb.size, hb.os.trans h.os, hb.tape.trans h.tape, hb.output.trans h.output, Nat.le_trans h.size hb.size⟩
theorem small_i4 (j k : Nat) (h : j < k) (hk : k ≤ 256) : wrap64 ((j : Int) + 1) = ((j + 1 : Nat) : Int) ∧ IntKind.i64.wrap ((j : Int) + 1) = ((j + 1 : Nat) : Int) ∧ (j : Int) < (k : Int) := by
  refine ⟨?_, ?_, by omega⟩
  · unfold wrap64; omega
  · rw [IntKind.wrap_i64]; omega
theorem made_few4 (i n b : Nat) (hb : b ≤ 64) (h : i = b) (hn : n ≤ 4096) : i * n ≤ 281474976710656 ∧ n ≤ maxLen := by
  have : b * n ≤ 64 * 4096 := Nat.mul_le_mul hb hn
  subst h
  refine ⟨by omega, by unfold maxLen; omega⟩
set_option maxHeartbeats 1600000 in
set_option maxRecDepth 100000 in
/-- blockwise, with any function of a block's number and the block, that has 1 box(es). -/
theorem blockwise1 (fn p : Nat) (hE : ∀ args u, (callFunc fn args).run Tryz.prog u = .ok (.enter fn args) u) (J : Nat → World → Prop) (F : Nat → BitVec 128) (b off c k : Nat) (zs : List Int) (w : World) (hJ : LowJ w.heap.size J) (h0 : J 0 w) (hl1 : 16 * k ≤ zs.length) (hl2 : zs.length < 16 * k + 16) (hl3 : zs.length ≤ 4096) (hc1 : zs.length ≤ c) (hb : AllBytes zs)
    (hz : ∀ j u, J j u → ∀ i, i < zs.length → u.cell? ⟨b, off + i, none⟩ = some (.int .u8 (zs.getD i 0)))
    (HD : ∀ j u, j < k → J j u → w.heap.size ≤ u.heap.size → Calls Tryz.prog fn #[.int .i64 (j : Nat), Fd.BV (cutV zs j), .pointer (some ⟨p, 0, none⟩)] u fun e w' => Hid (e = .returned (Fd.BV (F j)) ∧ J (j + 1) w' ∧ Kp w.heap.size u w')) :
    Calls Tryz.prog 211 #[.slice (some ⟨b, off, none⟩) zs.length c, .func (.func fn) #[] #[.pointer (some ⟨p, 0, none⟩)]] w fun e w' => Hid (e = .returned (.slice (some ⟨w.heap.size, 0, none⟩) zs.length zs.length) ∧ BwI J F zs.length w w' k) := by
  obtain ⟨n, HNL⟩ : ∃ n, Hid (zs.length = n) := ⟨_, rfl⟩
  have HJ0 : Hid (LowJ w.heap.size J ∧ J 0 w) := ⟨hJ, h0⟩
  have HC : Hid (∀ u j, j < k → BwI J F n w u j → Calls Tryz.prog 197 #[.slice (some ⟨b, off, none⟩) n c, .int .i64 (j : Nat)] u fun e w' => Hid (e = .returned (Fd.BV (cutV zs j)) ∧ Below u.heap.size u w')) := fun u j hj hu => by
    have q := cut_ok b off c j zs u (by omega) hc1 (by omega) hb (fun i hi => hz j u hu.inv i hi)
    rw [HNL.out] at q; exact q
  have HK : Hid (∀ u j, j < k → BwI J F n w u j → Calls Tryz.prog fn #[.int .i64 (j : Nat), Fd.BV (cutV zs j), .pointer (some ⟨p, 0, none⟩)] u fun e w' => Hid (e = .returned (Fd.BV (F j)) ∧ J (j + 1) w' ∧ Kp w.heap.size u w')) := fun u j hj hu => HD j u hj hu.inv hu.size
  have HLY : Hid (∀ u j, j < k → BwM J F n w u j → Calls Tryz.prog 234 #[.slice (some ⟨w.heap.size, 0, none⟩) n n, .int .i64 (j : Nat), Fd.BV (F j)] u fun e w' => Hid (e = .returned (.tuple #[]) ∧ BwI J F n w w' (j + 1))) := fun u j hj hu => by
    have hle : 16 * j + 16 ≤ n := by rw [← HNL.out]; omega
    refine (lay_ok w.heap.size n n j (F j) (bkR F n j) u hle (Nat.le_refl _) (by rw [← HNL.out]; omega) (by rw [bkR_len F n j (by omega)]; omega) hu.row).mono ?_
    intro e w' hh
    obtain ⟨rfl, h1, h2⟩ := hh.out
    exact ⟨rfl, hu.lay HJ0.out.1 hle h1 h2⟩
  have HN : Hid (16 * k ≤ n ∧ n < 16 * k + 16 ∧ n ≤ 4096) := by rw [← HNL.out]; exact ⟨hl1, hl2, hl3⟩
  rw [HNL.out]
  obtain ⟨i0, hi0, hz0, hz1, hz2⟩ := info_parts Tryz.info5
  have HI0 : Hid (Tryz.prog.info? 5 = some i0 ∧ i0.zero = some (.int .u8 0) ∧ i0.size = 1 ∧ i0.bytes = 1) := ⟨hi0, hz0, hz1, hz2⟩
  have q1 : (n : Int).tdiv 16 = (k : Int) := by rw [Int.tdiv_eq_ediv_of_nonneg (by omega)]; have := HN.out; omega
  have q3 : IntKind.i64.wrap (k : Int) = (k : Int) := by rw [IntKind.wrap_i64]; have := HN.out; omega
  have q4 : (n : Int) / 16 = (k : Int) := by have := HN.out; omega
  have HK64 : Hid (k ≤ 256) := (by have := HN.out; omega : k ≤ 256)
  have HMF : Hid (i0.bytes * n ≤ 281474976710656 ∧ n ≤ maxLen) := made_few4 i0.bytes n 1 (by decide) HI0.out.2.2.2 (by have := HN.out; omega)
  clear hl1 hl2 hl3 hc1 hb hz hi0 hz0 hz1 hz2 hJ h0 HD
  go_enter Tryz.func211, Tryz.ntmps211
  go_upto_region 2 with (first
    | (at_make; go_must (refine wpList_make_full _ rfl _ _ 22 rfl w.heap.size 5 i0 (.int .u8 0) 1 Tryz.underlying22 HI0.out.1 HI0.out.2.1 HI0.out.2.2.1 .i64 .i64 (n : Nat) (n : Nat) n rfl rfl rfl rfl HMF.out.1 HMF.out.2 (Nat.le_refl _) ?_; intro w1 hown hgrow; have HW1 : Hid (BwI J F n w w1 0) := ⟨by rw [bkR_zero]; have z := own_full hown; rw [show (Value.int .u8 0).cells = #[.int .u8 0] from rfl, toList_madeCells_one, Nat.mul_one] at z; exact z, HJ0.out.1 0 w w1 HJ0.out.2 (Nat.le_refl _) (fun c hc => hgrow.block c hc (by simp)) hgrow.size, hgrow.os, hgrow.tape, hgrow.output, hgrow.size⟩; clear hown hgrow)))
  go_upto_region 3 with fail
  go_loopw [13] (fun v wr => ∃ j : Nat, j ≤ k ∧ v = .int .i64 (j : Nat) ∧ Hid (BwI J F n w wr j)) (fun v _ => k - (intOf v).toNat)
  case atStart => exact ⟨0, Nat.zero_le _, rfl, HW1⟩
  case round =>
   as_aux_lemma =>
    obtain ⟨j, hj, rfl, HI⟩ := hrel
    by_cases hlt : j < k
    · have HJ : Hid (j < k) := hlt
      obtain ⟨ej, ej2, g1⟩ := small_i4 j k hlt HK64.out
      go_wp2_with (first
        | (go_at_call 197; refine (HC.out _ _ HJ.out HI.out).mono ?_; intro e2 w2 hh; obtain ⟨rfl, hb2⟩ := hh.out; have HI2 : Hid (BwI J F n w w2 j) := HI.out.below HJ0.out.1 hb2; clear hh hb2)
        | (go_at_call 234; refine (HLY.out _ _ HJ.out HI3.out).mono ?_; intro e4 w4 hh; obtain ⟨rfl, hi4⟩ := hh.out; have HI4 : Hid (BwI J F n w w4 (j + 1)) := hi4; clear hh hi4)
        | (refine (HK.out _ _ HJ.out HI2.out).mono ?_; intro e3 w3 hh; obtain ⟨rfl, hm3, hg3⟩ := hh.out; have HI3 : Hid (BwM J F n w w3 j) := HI2.out.does hm3 hg3; clear hh hm3 hg3))
      exact ⟨⟨j + 1, HJ.out, by first | rfl | simp, HI4⟩, by first | exact meas_i j k HJ.out | (simpa using meas_i j k HJ.out)⟩
    · have g1 : ¬ (j : Int) < (k : Int) := by omega
      have HE : Hid (BwI J F n w wr k) := by
        have p := HI.out
        rw [show j = k by omega] at p
        exact p
      clear HI
      go_wp2
      go_ret
      exact ⟨rfl, HE.out⟩
set_option maxHeartbeats 1600000 in
set_option maxRecDepth 100000 in
/-- blockwise, with any function of a block's number and the block, that has 2 box(es). -/
theorem blockwise2 (fn p q : Nat) (hE : ∀ args u, (callFunc fn args).run Tryz.prog u = .ok (.enter fn args) u) (J : Nat → World → Prop) (F : Nat → BitVec 128) (b off c k : Nat) (zs : List Int) (w : World) (hJ : LowJ w.heap.size J) (h0 : J 0 w) (hl1 : 16 * k ≤ zs.length) (hl2 : zs.length < 16 * k + 16) (hl3 : zs.length ≤ 4096) (hc1 : zs.length ≤ c) (hb : AllBytes zs)
    (hz : ∀ j u, J j u → ∀ i, i < zs.length → u.cell? ⟨b, off + i, none⟩ = some (.int .u8 (zs.getD i 0)))
    (HD : ∀ j u, j < k → J j u → w.heap.size ≤ u.heap.size → Calls Tryz.prog fn #[.int .i64 (j : Nat), Fd.BV (cutV zs j), .pointer (some ⟨p, 0, none⟩), .pointer (some ⟨q, 0, none⟩)] u fun e w' => Hid (e = .returned (Fd.BV (F j)) ∧ J (j + 1) w' ∧ Kp w.heap.size u w')) :
    Calls Tryz.prog 211 #[.slice (some ⟨b, off, none⟩) zs.length c, .func (.func fn) #[] #[.pointer (some ⟨p, 0, none⟩), .pointer (some ⟨q, 0, none⟩)]] w fun e w' => Hid (e = .returned (.slice (some ⟨w.heap.size, 0, none⟩) zs.length zs.length) ∧ BwI J F zs.length w w' k) := by
  obtain ⟨n, HNL⟩ : ∃ n, Hid (zs.length = n) := ⟨_, rfl⟩
  have HJ0 : Hid (LowJ w.heap.size J ∧ J 0 w) := ⟨hJ, h0⟩
  have HC : Hid (∀ u j, j < k → BwI J F n w u j → Calls Tryz.prog 197 #[.slice (some ⟨b, off, none⟩) n c, .int .i64 (j : Nat)] u fun e w' => Hid (e = .returned (Fd.BV (cutV zs j)) ∧ Below u.heap.size u w')) := fun u j hj hu => by
    have q := cut_ok b off c j zs u (by omega) hc1 (by omega) hb (fun i hi => hz j u hu.inv i hi)
    rw [HNL.out] at q; exact q
  have HK : Hid (∀ u j, j < k → BwI J F n w u j → Calls Tryz.prog fn #[.int .i64 (j : Nat), Fd.BV (cutV zs j), .pointer (some ⟨p, 0, none⟩), .pointer (some ⟨q, 0, none⟩)] u fun e w' => Hid (e = .returned (Fd.BV (F j)) ∧ J (j + 1) w' ∧ Kp w.heap.size u w')) := fun u j hj hu => HD j u hj hu.inv hu.size
  have HLY : Hid (∀ u j, j < k → BwM J F n w u j → Calls Tryz.prog 234 #[.slice (some ⟨w.heap.size, 0, none⟩) n n, .int .i64 (j : Nat), Fd.BV (F j)] u fun e w' => Hid (e = .returned (.tuple #[]) ∧ BwI J F n w w' (j + 1))) := fun u j hj hu => by
    have hle : 16 * j + 16 ≤ n := by rw [← HNL.out]; omega
    refine (lay_ok w.heap.size n n j (F j) (bkR F n j) u hle (Nat.le_refl _) (by rw [← HNL.out]; omega) (by rw [bkR_len F n j (by omega)]; omega) hu.row).mono ?_
    intro e w' hh
    obtain ⟨rfl, h1, h2⟩ := hh.out
    exact ⟨rfl, hu.lay HJ0.out.1 hle h1 h2⟩
  have HN : Hid (16 * k ≤ n ∧ n < 16 * k + 16 ∧ n ≤ 4096) := by rw [← HNL.out]; exact ⟨hl1, hl2, hl3⟩
  rw [HNL.out]
  obtain ⟨i0, hi0, hz0, hz1, hz2⟩ := info_parts Tryz.info5
  have HI0 : Hid (Tryz.prog.info? 5 = some i0 ∧ i0.zero = some (.int .u8 0) ∧ i0.size = 1 ∧ i0.bytes = 1) := ⟨hi0, hz0, hz1, hz2⟩
  have q1 : (n : Int).tdiv 16 = (k : Int) := by rw [Int.tdiv_eq_ediv_of_nonneg (by omega)]; have := HN.out; omega
  have q3 : IntKind.i64.wrap (k : Int) = (k : Int) := by rw [IntKind.wrap_i64]; have := HN.out; omega
  have q4 : (n : Int) / 16 = (k : Int) := by have := HN.out; omega
  have HK64 : Hid (k ≤ 256) := (by have := HN.out; omega : k ≤ 256)
  have HMF : Hid (i0.bytes * n ≤ 281474976710656 ∧ n ≤ maxLen) := made_few4 i0.bytes n 1 (by decide) HI0.out.2.2.2 (by have := HN.out; omega)
  clear hl1 hl2 hl3 hc1 hb hz hi0 hz0 hz1 hz2 hJ h0 HD
  go_enter Tryz.func211, Tryz.ntmps211
  go_upto_region 2 with (first
    | (at_make; go_must (refine wpList_make_full _ rfl _ _ 22 rfl w.heap.size 5 i0 (.int .u8 0) 1 Tryz.underlying22 HI0.out.1 HI0.out.2.1 HI0.out.2.2.1 .i64 .i64 (n : Nat) (n : Nat) n rfl rfl rfl rfl HMF.out.1 HMF.out.2 (Nat.le_refl _) ?_; intro w1 hown hgrow; have HW1 : Hid (BwI J F n w w1 0) := ⟨by rw [bkR_zero]; have z := own_full hown; rw [show (Value.int .u8 0).cells = #[.int .u8 0] from rfl, toList_madeCells_one, Nat.mul_one] at z; exact z, HJ0.out.1 0 w w1 HJ0.out.2 (Nat.le_refl _) (fun c hc => hgrow.block c hc (by simp)) hgrow.size, hgrow.os, hgrow.tape, hgrow.output, hgrow.size⟩; clear hown hgrow)))
  go_upto_region 3 with fail
  go_loopw [13] (fun v wr => ∃ j : Nat, j ≤ k ∧ v = .int .i64 (j : Nat) ∧ Hid (BwI J F n w wr j)) (fun v _ => k - (intOf v).toNat)
  case atStart => exact ⟨0, Nat.zero_le _, rfl, HW1⟩
  case round =>
   as_aux_lemma =>
    obtain ⟨j, hj, rfl, HI⟩ := hrel
    by_cases hlt : j < k
    · have HJ : Hid (j < k) := hlt
      obtain ⟨ej, ej2, g1⟩ := small_i4 j k hlt HK64.out
      go_wp2_with (first
        | (go_at_call 197; refine (HC.out _ _ HJ.out HI.out).mono ?_; intro e2 w2 hh; obtain ⟨rfl, hb2⟩ := hh.out; have HI2 : Hid (BwI J F n w w2 j) := HI.out.below HJ0.out.1 hb2; clear hh hb2)
        | (go_at_call 234; refine (HLY.out _ _ HJ.out HI3.out).mono ?_; intro e4 w4 hh; obtain ⟨rfl, hi4⟩ := hh.out; have HI4 : Hid (BwI J F n w w4 (j + 1)) := hi4; clear hh hi4)
        | (refine (HK.out _ _ HJ.out HI2.out).mono ?_; intro e3 w3 hh; obtain ⟨rfl, hm3, hg3⟩ := hh.out; have HI3 : Hid (BwM J F n w w3 j) := HI2.out.does hm3 hg3; clear hh hm3 hg3))
      exact ⟨⟨j + 1, HJ.out, by first | rfl | simp, HI4⟩, by first | exact meas_i j k HJ.out | (simpa using meas_i j k HJ.out)⟩
    · have g1 : ¬ (j : Int) < (k : Int) := by omega
      have HE : Hid (BwI J F n w wr k) := by
        have p := HI.out
        rw [show j = k by omega] at p
        exact p
      clear HI
      go_wp2
      go_ret
      exact ⟨rfl, HE.out⟩
end Go.Proofs.YtehlppaidgkpaaaGreatDoor
