import Derived.Test.YtcnikfikpnnblaaGreatDoorPart35
import Derived.Test.YtcnikfikpnnblaaGreatDoorFdTimes
import Derived.OwnWalk
import Derived.Test.YtcnikfikpnnblaaGreatDoorPart31
namespace Go.Proofs.YtcnikfikpnnblaaGreatDoor
open Go.RowKit
set_option linter.unusedVariables false
set_option linter.unusedSimpArgs false
/-- What masked's closure reads: the function, the masks, the key. -/
structure MkW (g nr : Nat) (K : Nat → Nat) (sh p q r o n c : Nat) (f : Nat → BitVec 128) (u : World) : Prop where
  key : KeyAt u g nr K
  csh : u.cell? ⟨sh, 4, none⟩ = some (.pointer (some ⟨g, 0, none⟩))
  cp : u.cell? ⟨p, 0, none⟩ = some (.func (.func 148) #[.pointer (some ⟨sh, 0, none⟩)] #[])
  cq : u.cell? ⟨q, 0, none⟩ = some (.slice (some ⟨r, o, none⟩) n c)
  rg : ∀ j, j < n → u.rangeAt r (o + j * 16) (Fd.BL (f j))
  n1 : sh ≠ g
  n2 : p ≠ g
  n3 : q ≠ g
  n4 : r ≠ g
theorem MkW.keep {g nr : Nat} {K : Nat → Nat} {sh p q r o n c : Nat} {f : Nat → BitVec 128} {u u' : World} (h : MkW g nr K sh p q r o n c f u) (hk : ∀ k, k < u.heap.size → k ≠ g → u'.heap[k]? = u.heap[k]?) (ha : KeyAt u' g nr K) : MkW g nr K sh p q r o n c f u' := by
  have cc : ∀ b o x, b ≠ g → u.cell? ⟨b, o, none⟩ = some x → u'.cell? ⟨b, o, none⟩ = some x := fun b o x hb hx => by
    rw [World.cell?_of_block (a := ⟨b, o, none⟩) (hk b (World.block_lt_of_cell? u _ hx) hb)]; exact hx
  exact ⟨ha, cc _ _ _ h.n1 h.csh, cc _ _ _ h.n2 h.cp, cc _ _ _ h.n3 h.cq, fun j hj i x hx => cc _ _ _ h.n4 (h.rg j hj i x hx), h.n1, h.n2, h.n3, h.n4⟩
theorem MkW.below {g nr : Nat} {K : Nat → Nat} {sh p q r o n c : Nat} {f : Nat → BitVec 128} {u u' : World} (h : MkW g nr K sh p q r o n c f u) (hb : Below u.heap.size u u') : MkW g nr K sh p q r o n c f u' :=
  h.keep (fun k hk _ => hb.block k hk) (h.key.below hb h.key.ciph.here)
theorem MkW.grown {g nr : Nat} {K : Nat → Nat} {sh p q r o n c : Nat} {f : Nat → BitVec 128} {u u' : World} (h : MkW g nr K sh p q r o n c f u) (hb : u.grownBy u' (some g)) (ha : KeyAt u' g nr K) : MkW g nr K sh p q r o n c f u' :=
  h.keep (fun k hk hn => hb.block k hk (fun e => hn (by injection e))) ha
/-- What the region reads at place j. -/
def MkT (p q r o n c j m sh : Nat) (L X : List Value) (u : World) : Prop := u.cell? ⟨p, 0, none⟩ = some (.func (.func 148) #[.pointer (some ⟨sh, 0, none⟩)] #[]) ∧ u.cell? ⟨q, 0, none⟩ = some (.slice (some ⟨r, o, none⟩) n c) ∧ u.rangeAt m 0 L ∧ u.rangeAt r (o + j * 16) X ∧ u.there (m + 1) 0 16
theorem MkW.reads {g nr : Nat} {K : Nat → Nat} {sh p q r o n c j m : Nat} {f : Nat → BitVec 128} {u : World} {L : List Value} (h : MkW g nr K sh p q r o n c f u) (hj : j < n) (h1 : Bx u m 29 L) {Z : List Value} (h2 : Bx u (m + 1) 29 Z) (hZ : Z.length = 16) : MkT p q r o n c j m sh L (Fd.BL (f j)) u :=
  ⟨h.cp, h.cq, h1.range, h.rg j hj, bx_there h2 hZ⟩
end Go.Proofs.YtcnikfikpnnblaaGreatDoor
namespace Go.Proofs.YtcnikfikpnnblaaGreatDoor
open Go.RowKit
set_option linter.unusedVariables false
set_option linter.unusedSimpArgs false
/-- Blocks one behind the other. -/
def bkL (F : Nat → BitVec 128) (k : Nat) : List Value := (List.range k).flatMap fun j => Fd.BL (F j)
theorem bkL_succ (F : Nat → BitVec 128) (k : Nat) : bkL F (k + 1) = bkL F k ++ Fd.BL (F k) := by simp [bkL, List.range_succ]
theorem bkL_len (F : Nat → BitVec 128) (k : Nat) : (bkL F k).length = 16 * k := by
  induction k with
  | zero => rfl
  | succ k ih => rw [bkL_succ, List.length_append, ih, Fd.BL_length]; omega
theorem bkL_at (F : Nat → BitVec 128) (k j i : Nat) (hj : j < k) (hi : i < 16) : (bkL F k)[16 * j + i]? = some (.int .u8 (Fd.byV (F j) i : Nat)) := by
  induction k with
  | zero => omega
  | succ k ih =>
    rw [bkL_succ]
    by_cases h : j < k
    · rw [List.getElem?_append_left (by rw [bkL_len]; omega)]; exact ih h
    · obtain rfl : j = k := by omega
      rw [List.getElem?_append_right (by rw [bkL_len]; omega), bkL_len, show 16 * j + i - 16 * j = i by omega, Fd.BL_at _ i hi]
/-- The row between two rounds. -/
def bkR (F : Nat → BitVec 128) (n k : Nat) : List Value := bkL F k ++ List.replicate (n - 16 * k) (.int .u8 0)
theorem bkR_len (F : Nat → BitVec 128) (n k : Nat) (h : 16 * k ≤ n) : (bkR F n k).length = n := by
  rw [bkR, List.length_append, bkL_len, List.length_replicate]; omega
theorem bkR_step (F : Nat → BitVec 128) (n k : Nat) (h : 16 * k + 16 ≤ n) : splice (bkR F n k) (16 * k) (Fd.BL (F k)) = bkR F n (k + 1) := by
  have e1 : (bkR F n k).take (16 * k) = bkL F k := by rw [bkR, List.take_append_of_le_length (by rw [bkL_len]; omega), List.take_of_length_le (by rw [bkL_len]; omega)]
  have e2 : (bkR F n k).drop (16 * k + 16) = List.replicate (n - 16 * (k + 1)) (.int .u8 0) := by
    rw [bkR, List.drop_append, bkL_len, List.drop_of_length_le (by rw [bkL_len]; omega), List.drop_replicate, List.nil_append, show n - 16 * k - (16 * k + 16 - 16 * k) = n - 16 * (k + 1) by omega]
  simp only [splice, Fd.BL_length]
  rw [e1, e2, bkR, bkL_succ]
  simp
theorem bkR_zero (F : Nat → BitVec 128) (n : Nat) : bkR F n 0 = List.replicate n (.int .u8 0) := by simp [bkR, bkL]
theorem bkR_end (F : Nat → BitVec 128) (n k : Nat) (h : n = 16 * k) : bkR F n k = bkL F k := by simp [bkR, h]
theorem own_full {w : World} {base n g : Nat} {e : TypeId} {xs : List Value} (h : w.ownsRow base e 1 (.slice (some ⟨g, 0, none⟩) n n) n xs) : Bx w g e xs := by
  obtain ⟨h1, h2⟩ := h
  rcases h2 with ⟨q, _⟩ | ⟨g', cap, cur, q, _, hh, _, _, hs, ht⟩
  · cases q
  · injection q with q1 q2 q3
    injection q1 with q1
    injection q1 with q1
    subst q1 q3
    have : xs.toArray = cur := by
      rw [← ht, List.take_of_length_le (by simp; omega)]
    unfold Bx; rw [hh, this]
theorem meas_i (j k : Nat) (h : j < k) : k - (intOf (.int .i64 ((j + 1 : Nat) : Int))).toNat < k - (intOf (.int .i64 ((j : Nat) : Int))).toNat := by
  simp [intOf]; omega
/-- blockwise between two rounds: k blocks are done. -/
structure BkI (g nr : Nat) (K : Nat → Nat) (sh p q r o nn cc : Nat) (f : Nat → BitVec 128) (F : Nat → BitVec 128) (n : Nat) (w wr : World) (k : Nat) : Prop where
  row : Bx wr w.heap.size 5 (bkR F n k)
  mw : MkW g nr K sh p q r o nn cc f wr
  gb : w.grownBy wr (some g)
theorem BkI.cell {g nr : Nat} {K : Nat → Nat} {sh p q r o nn cc : Nat} {f F : Nat → BitVec 128} {n : Nat} {w wr : World} {k : Nat} (h : BkI g nr K sh p q r o nn cc f F n w wr k) {b i : Nat} {x : Value} (hb : b ≠ g) (hx : w.cell? ⟨b, i, none⟩ = some x) : wr.cell? ⟨b, i, none⟩ = some x := by
  rw [World.cell?_of_block (a := ⟨b, i, none⟩) (h.gb.block b (World.block_lt_of_cell? w _ hx) (fun e => hb (by injection e)))]; exact hx
theorem BkI.below {g nr : Nat} {K : Nat → Nat} {sh p q r o nn cc : Nat} {f F : Nat → BitVec 128} {n : Nat} {w wr u : World} {k : Nat} (h : BkI g nr K sh p q r o nn cc f F n w wr k) (hb : Below wr.heap.size wr u) : BkI g nr K sh p q r o nn cc f F n w u k :=
  ⟨h.row.below hb, h.mw.below hb, ⟨hb.os.trans h.gb.os, hb.tape.trans h.gb.tape, hb.output.trans h.gb.output, Nat.le_trans h.gb.size hb.size, fun c hc hn => (hb.block c (Nat.lt_of_lt_of_le hc h.gb.size)).trans (h.gb.block c hc hn)⟩⟩
theorem BkI.lay {g nr : Nat} {K : Nat → Nat} {sh p q r o nn cc : Nat} {f F : Nat → BitVec 128} {n : Nat} {w wr u : World} {k : Nat} (h : BkI g nr K sh p q r o nn cc f F n w wr k) (hg : g < w.heap.size) (hk : 16 * k + 16 ≤ n) (h1 : Bx u w.heap.size 5 (splice (bkR F n k) (16 * k) (Fd.BL (F k)))) (hb : wr.grownBy u (some w.heap.size)) (hM : MkW g nr K sh p q r o nn cc f w) : BkI g nr K sh p q r o nn cc f F n w u (k + 1) := by
  have e : ∀ c, c < w.heap.size → u.heap[c]? = wr.heap[c]? := fun c hc => hb.block c (Nat.lt_of_lt_of_le hc h.gb.size) (fun e => by injection e with e; omega)
  have hG : w.grownBy u (some g) := ⟨hb.os.trans h.gb.os, hb.tape.trans h.gb.tape, hb.output.trans h.gb.output, Nat.le_trans h.gb.size hb.size, fun c hc hn => (e c hc).trans (h.gb.block c hc hn)⟩
  rw [bkR_step F n k hk] at h1
  exact ⟨h1, hM.grown hG (h.mw.key.sameK (e g hg) hb.size), hG⟩
end Go.Proofs.YtcnikfikpnnblaaGreatDoor
namespace Go.Proofs.YtcnikfikpnnblaaGreatDoor
open Go.RowKit
set_option linter.unusedVariables false
set_option linter.unusedSimpArgs false
theorem Tryz.info29b : (Tryz.prog.info? 29).map (fun i => (i.zero, i.size, i.bytes)) = some (some (.agg ZZ.toArray), 16, 16) := by kernel_rfl
theorem Tryz.underlying77b : Tryz.prog.underlying 77 = some (.slice 29) := by kernel_rfl
theorem Bx.storeAt {w : World} {b o : Nat} {t : TypeId} {cur L : List Value} (h : Bx w b t cur) (hl : o + L.length ≤ cur.length) : Bx (w.setCells b o L) b t (splice cur o L) := by
  obtain ⟨r, h1, h2, h3⟩ := setCells_bo b t L o w cur.toArray h
  have e : r = (splice cur o L).toArray := by
    apply Array.ext_getElem?
    intro j
    rw [h3]
    simp only [List.size_toArray, List.getElem?_toArray, splice]
    by_cases c1 : j < o
    · rw [if_neg (by omega), List.getElem?_append_left (by rw [List.length_take]; omega), List.getElem?_take, if_pos c1]
    · rw [List.getElem?_append_right (by rw [List.length_take]; omega), List.length_take, Nat.min_eq_left (by omega)]
      by_cases c2 : j < o + L.length
      · rw [if_pos (by omega), List.getElem?_append_left (by omega)]
      · rw [if_neg (by omega), List.getElem?_append_right (by omega), List.getElem?_drop]
        congr 1; omega
  unfold Bx
  rw [h1, e]
theorem own_full16 {w : World} {base n g : Nat} {e : TypeId} {xs : List Value} (h : w.ownsRow base e 16 (.slice (some ⟨g, 0, none⟩) n n) n xs) : Bx w g e xs ∧ xs.length = 16 * n := by
  obtain ⟨h1, h2⟩ := h
  rcases h2 with ⟨q, _⟩ | ⟨g', cap, cur, q, _, hh, _, _, hs, ht⟩
  · cases q
  · injection q with q1 q2 q3
    injection q1 with q1
    injection q1 with q1
    subst q1 q3
    have : xs.toArray = cur := by
      rw [← ht, List.take_of_length_le (by simp; omega)]
    refine ⟨?_, by omega⟩
    unfold Bx; rw [hh, this]
theorem hiV_lt (v : BitVec 128) : Fd.hiV v < 18446744073709551616 ∧ Fd.loV v < 18446744073709551616 := by
  have := v.isLt
  unfold Fd.hiV Fd.loV
  constructor <;> omega
/-- masks between two rounds: the factor's box at y, the row at x. -/
structure LmI (B : Nat) (f : Nat → BitVec 128) (L : List Value) (y x k : Nat) (w u : World) (j : Nat) : Prop where
  fac : Bx u y 29 L
  row : ∃ T, Bx u x 29 (bkL f j ++ T) ∧ T.length = 16 * (k - j)
  bel : Below B w u
theorem LmI.below {B : Nat} {f : Nat → BitVec 128} {L : List Value} {y x k : Nat} {w u v : World} {j : Nat} (h : LmI B f L y x k w u j) (hb : Below u.heap.size u v) (hB : B ≤ u.heap.size) : LmI B f L y x k w v j := by
  obtain ⟨T, h1, h2⟩ := h.row
  exact ⟨h.fac.below hb, ⟨T, h1.below hb, h2⟩, h.bel.trans (hb.mono hB)⟩
theorem LmI.there {B : Nat} {f : Nat → BitVec 128} {L : List Value} {y x k : Nat} {w u : World} {j : Nat} (h : LmI B f L y x k w u j) (hj : j < k) : u.there x (0 + j * 16) 16 := by
  obtain ⟨T, h1, h2⟩ := h.row
  intro i hi
  have hl : 0 + j * 16 + i < (bkL f j ++ T).length := by rw [List.length_append, bkL_len, h2]; omega
  exact ⟨by rw [h1.cell _ _ (List.getElem?_eq_getElem hl)]; rfl, h1.frozen _⟩
theorem LmI.store {B : Nat} {f : Nat → BitVec 128} {L : List Value} {y x k : Nat} {w u : World} {j : Nat} (h : LmI B f L y x k w u j) (hj : j < k) (hxy : x ≠ y) (hx : B ≤ x) (hB : B ≤ u.heap.size) : LmI B f L y x k w (u.setCells x (0 + j * 16) (Fd.BL (f j))) (j + 1) := by
  obtain ⟨T, h1, h2⟩ := h.row
  have hg := setCells_gb x (Fd.BL (f j)) (0 + j * 16) u
  refine ⟨h.fac.keep (hg.block y h.fac.lt (fun e => hxy (by injection e with e; exact e.symm))), ⟨T.drop 16, ?_, by rw [List.length_drop, h2]; omega⟩, h.bel.trans (below_gb hg hB hx)⟩
  have q := h1.storeAt (o := 0 + j * 16) (L := Fd.BL (f j)) (by rw [Fd.BL_length, List.length_append, bkL_len, h2]; omega)
  have e : splice (bkL f j ++ T) (0 + j * 16) (Fd.BL (f j)) = bkL f (j + 1) ++ T.drop 16 := by
    simp only [splice, Fd.BL_length]
    rw [bkL_succ, List.take_append_of_le_length (by rw [bkL_len]; omega), List.take_of_length_le (by rw [bkL_len]; omega), List.drop_append, bkL_len, List.drop_of_length_le (by rw [bkL_len]; omega), show 0 + j * 16 + 16 - 16 * j = 16 by omega]
    simp
  rw [e] at q
  exact q
end Go.Proofs.YtcnikfikpnnblaaGreatDoor
namespace Go.Proofs.YtcnikfikpnnblaaGreatDoor
open Go.RowKit
set_option linter.unusedVariables false
set_option linter.unusedSimpArgs false
/-- A cipher of lrw at c between two calls; the key's schedule is at g. -/
structure LrW (B c sh g nr : Nat) (K : Nat → Nat) (S : ByteArray) (wd : Nat) (zs : List Int) (kv ov fv pv : Value) (u : World) : Prop where
  key : KeyAt u g nr K
  box : Bx u sh 108 (shL S 16 kv wd (some ⟨g, 0, none⟩) ov)
  cip : Bx u c 97 [.pointer (some ⟨sh, 0, none⟩), fv, bV 160 [.pointer (some ⟨sh, 0, none⟩), fV 140], pv]
  own : u.ownsRow B 5 1 kv zs.length (cellsU8 zs)
  n1 : sh ≠ g
  n2 : c ≠ g
  n3 : ∀ q, kv.ownBlock = some q → q ≠ g
theorem LrW.keep {B c sh g nr : Nat} {K : Nat → Nat} {S : ByteArray} {wd : Nat} {zs : List Int} {kv ov fv pv : Value} {u u' : World} (h : LrW B c sh g nr K S wd zs kv ov fv pv u) (hk : ∀ k, k < u.heap.size → k ≠ g → u'.heap[k]? = u.heap[k]?) (ha : KeyAt u' g nr K) : LrW B c sh g nr K S wd zs kv ov fv pv u' :=
  ⟨ha, h.box.keep (hk _ h.box.lt h.n1), h.cip.keep (hk _ h.cip.lt h.n2), ownsRow_keep h.own fun q e => hk q (ownsRow_lt h.own e).2 (h.n3 q e), h.n1, h.n2, h.n3⟩
theorem LrW.below {B c sh g nr : Nat} {K : Nat → Nat} {S : ByteArray} {wd : Nat} {zs : List Int} {kv ov fv pv : Value} {u u' : World} (h : LrW B c sh g nr K S wd zs kv ov fv pv u) (hb : Below u.heap.size u u') : LrW B c sh g nr K S wd zs kv ov fv pv u' :=
  h.keep (fun k hk _ => hb.block k hk) (h.key.below hb h.key.ciph.here)
theorem LrW.grown {B c sh g nr : Nat} {K : Nat → Nat} {S : ByteArray} {wd : Nat} {zs : List Int} {kv ov fv pv : Value} {u u' : World} (h : LrW B c sh g nr K S wd zs kv ov fv pv u) (hb : u.grownBy u' (some g)) (ha : KeyAt u' g nr K) : LrW B c sh g nr K S wd zs kv ov fv pv u' :=
  h.keep (fun k hk hn => hb.block k hk (fun e => hn (by injection e))) ha
/-- What New makes for lrw. -/
theorem LrW.of {B c sh : Nat} {S : ByteArray} {wd : Nat} {zs : List Int} {kv : Value} {mp : Option Addr} {ov fv sv pv : Value} {u : World} (hs : ShA B u sh S 16 wd zs kv mp ov) (hc : Bx u c 97 [.pointer (some ⟨sh, 0, none⟩), fv, sv, pv]) (hp : lrwV sh fv sv pv) (hwd : 0 < wd) :
    ∃ g nr K, mp = some ⟨g, 0, none⟩ ∧ B ≤ g ∧ LrW B c sh g nr K S wd zs kv ov fv pv u := by
  obtain ⟨rfl, rfl, rfl⟩ := hp
  rcases hs.main with ⟨h0, _⟩ | ⟨g, nk, rfl, hB, _, _, hK, R, hR⟩
  · omega
  · refine ⟨g, _, _, rfl, hB, hK, hs.box, hc, hs.key, type_ne hs.box hR (by decide), type_ne hc hR (by decide), fun q e => ?_⟩
    obtain ⟨cur, hq⟩ := own_type hs.key e
    exact type_ne hq hR (by decide)
/-- A block as bytes. -/
def blB (v : BitVec 128) : List Int := (List.range 16).map fun i => ((Fd.byV v i : Nat) : Int)
theorem blB_len (v : BitVec 128) : (blB v).length = 16 := by simp [blB]
theorem blB_at (v : BitVec 128) (i : Nat) (hi : i < 16) : (blB v).getD i 0 = ((Fd.byV v i : Nat) : Int) := by
  rw [List.getD_eq_getElem?_getD, blB, List.getElem?_map, List.getElem?_range hi]; rfl
theorem pk_congr (F G : Nat → Nat) : ∀ n, (∀ i, i < n → F i = G i) → Fd.pk F n = Fd.pk G n
  | 0, _ => rfl
  | n + 1, h => by rw [Fd.pk, Fd.pk, pk_congr F G n (fun i hi => h i (by omega)), h n (by omega)]
end Go.Proofs.YtcnikfikpnnblaaGreatDoor
