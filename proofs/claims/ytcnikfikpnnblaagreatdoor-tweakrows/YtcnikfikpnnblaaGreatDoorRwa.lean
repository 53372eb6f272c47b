import Derived.Test.YtcnikfikpnnblaaGreatDoorLrs
import Derived.Test.YtcnikfikpnnblaaGreatDoorPart40
namespace Go.Proofs.YtcnikfikpnnblaaGreatDoor
open Go.RowKit
set_option linter.unusedVariables false
set_option linter.unusedSimpArgs false
/-- A cipher of lrw at c between two calls; the key's schedule is at g. -/
structure LrW (B c sh g nr : Nat) (K : Nat → Nat) (S : ByteArray) (wd : Nat) (zs : List Int) (kv ov fv pv : Value) (u : World) : Prop where
  key : KeyAt u g nr K
  box : Bx u sh 108 (shL S 16 kv wd (some ⟨g, 0, none⟩) ov)
  cip : Bx u c 97 [.pointer (some ⟨sh, 0, none⟩), fv, bV 160 [.pointer (some ⟨sh, 0, none⟩), fV 140], pv]
  own : u.ownsRow B 5 1 kv zs.length (cellsU8 zs)
  n1 : sh ≠ g
  n2 : c ≠ g
  n3 : ∀ q, kv.ownBlock = some q → q ≠ g
theorem LrW.keep {B c sh g nr : Nat} {K : Nat → Nat} {S : ByteArray} {wd : Nat} {zs : List Int} {kv ov fv pv : Value} {u u' : World} (h : LrW B c sh g nr K S wd zs kv ov fv pv u) (hk : ∀ k, k < u.heap.size → k ≠ g → u'.heap[k]? = u.heap[k]?) (ha : KeyAt u' g nr K) : LrW B c sh g nr K S wd zs kv ov fv pv u' :=
  ⟨ha, h.box.keep (hk _ h.box.lt h.n1), h.cip.keep (hk _ h.cip.lt h.n2), ownsRow_keep h.own fun q e => hk q (ownsRow_lt h.own e).2 (h.n3 q e), h.n1, h.n2, h.n3⟩
theorem LrW.below {B c sh g nr : Nat} {K : Nat → Nat} {S : ByteArray} {wd : Nat} {zs : List Int} {kv ov fv pv : Value} {u u' : World} (h : LrW B c sh g nr K S wd zs kv ov fv pv u) (hb : Below u.heap.size u u') : LrW B c sh g nr K S wd zs kv ov fv pv u' :=
  h.keep (fun k hk _ => hb.block k hk) (h.key.below hb h.key.ciph.here)
theorem LrW.grown {B c sh g nr : Nat} {K : Nat → Nat} {S : ByteArray} {wd : Nat} {zs : List Int} {kv ov fv pv : Value} {u u' : World} (h : LrW B c sh g nr K S wd zs kv ov fv pv u) (hb : u.grownBy u' (some g)) (ha : KeyAt u' g nr K) : LrW B c sh g nr K S wd zs kv ov fv pv u' :=
  h.keep (fun k hk hn => hb.block k hk (fun e => hn (by injection e))) ha
/-- What New makes for lrw. -/
theorem LrW.of {B c sh : Nat} {S : ByteArray} {wd : Nat} {zs : List Int} {kv : Value} {mp : Option Addr} {ov fv sv pv : Value} {u : World} (hs : ShA B u sh S 16 wd zs kv mp ov) (hc : Bx u c 97 [.pointer (some ⟨sh, 0, none⟩), fv, sv, pv]) (hp : lrwV sh fv sv pv) (hwd : 0 < wd) :
    ∃ g nr K, mp = some ⟨g, 0, none⟩ ∧ B ≤ g ∧ LrW B c sh g nr K S wd zs kv ov fv pv u := by
  obtain ⟨rfl, rfl, rfl⟩ := hp
  rcases hs.main with ⟨h0, _⟩ | ⟨g, nk, rfl, hB, _, _, hK, R, hR⟩
  · omega
  · refine ⟨g, _, _, rfl, hB, hK, hs.box, hc, hs.key, type_ne hs.box hR (by decide), type_ne hc hR (by decide), fun q e => ?_⟩
    obtain ⟨cur, hq⟩ := own_type hs.key e
    exact type_ne hq hR (by decide)
/-- What Seal of lrw answers. -/
def LsP (B c sh g nr : Nat) (K : Nat → Nat) (S : ByteArray) (wd : Nat) (zs : List Int) (kv ov fv pv : Value) (s k n : Nat) (xs : List Int) (w w' : World) (x : Nat) : Prop :=
  w.heap.size ≤ x ∧ Bx w' x 5 (bkL (fun j => lrB nr K (cutV (zs.drop wd) 0) (s * k + 1 + j) (cutV xs j)) k) ∧ LrW B c sh g nr K S wd zs kv ov fv pv w' ∧ w.grownBy w' (some g)
theorem lseal_ok (B c sh g nr : Nat) (K : Nat → Nat) (S : ByteArray) (wd : Nat) (zs : List Int) (kv ov fv pv : Value) (s : Nat) (b off cp k : Nat) (xs : List Int) (w : World) (h : LrW B c sh g nr K S wd zs kv ov fv pv w)
    (hwd : wd + 16 ≤ zs.length) (hzl : zs.length ≤ 1000) (hs : s < 18446744073709551616) (hzb : AllBytes zs)
    (hl : xs.length = 16 * k) (hk0 : 0 < k) (hk : k ≤ 64) (hc1 : xs.length ≤ cp) (hb : AllBytes xs) (hbg : b ≠ g) (hz : ∀ i, i < xs.length → w.cell? ⟨b, off + i, none⟩ = some (.int .u8 (xs.getD i 0))) :
    Calls Tryz.prog 29 #[.pointer (some ⟨c, 0, none⟩), .int .u64 (s : Nat), .slice (some ⟨b, off, none⟩) xs.length cp] w fun e w' => Hid (∃ x, e = .returned (.tuple #[.slice (some ⟨x, 0, none⟩) xs.length xs.length, .int .i64 0]) ∧ LsP B c sh g nr K S wd zs kv ov fv pv s k xs.length xs w w' x) := by
  have q := seal_gen c sh 160 [.pointer (some ⟨sh, 0, none⟩), fV 140] (s : Nat) (some ⟨b, off, none⟩) xs.length cp 16 w (h.cip.cell 0 _ rfl) (h.cip.cell 2 _ rfl) (h.box.cell 1 _ rfl) (h.box.cell 6 _ rfl) (by omega) (by omega) (by omega) (by decide) (fun args u => enter_ok Tryz.func160 (by rfl) (by rfl) args u)
    (fun v w' => ∃ x, v = .slice (some ⟨x, 0, none⟩) xs.length xs.length ∧ LsP B c sh g nr K S wd zs kv ov fv pv s k xs.length xs w w' x) ?_
  · refine q.mono fun e w' hh => ?_
    obtain ⟨y, kk, d, rfl, x, hx, hp⟩ := hh.out
    rw [hx]
    exact ⟨x, rfl, hp⟩
  · refine (lrwseal_ok g nr K sh wd zs kv s b off cp k xs w h.key (h.box.cell 4 _ rfl) h.n1 (view_owns h.own rfl) (h.box.cell 2 _ rfl) (h.box.cell 3 _ rfl) hwd hzl hs hzb hl hk hc1 hb hbg hz).mono fun e w' hh => ?_
    obtain ⟨x, rfl, h1, h2, h3, h4⟩ := hh.out
    exact ⟨_, _, _, rfl, x, rfl, h1, h2, h.grown h4 h3, h4⟩
/-- A block as bytes. -/
def blB (v : BitVec 128) : List Int := (List.range 16).map fun i => ((Fd.byV v i : Nat) : Int)
theorem blB_len (v : BitVec 128) : (blB v).length = 16 := by simp [blB]
theorem blB_at (v : BitVec 128) (i : Nat) (hi : i < 16) : (blB v).getD i 0 = ((Fd.byV v i : Nat) : Int) := by
  rw [List.getD_eq_getElem?_getD, blB, List.getElem?_map, List.getElem?_range hi]; rfl
/-- Block j of a row as a slice. -/
theorem bk_view {w : World} {x : Nat} {F : Nat → BitVec 128} {k : Nat} (h : Bx w x 5 (bkL F k)) (j d : Nat) (hj : j < k) (hd : 16 ≤ d) (hm : d ≤ maxLen) : View w (.slice (some ⟨x, 16 * j, none⟩) 16 d) (blB (F j)) := by
  refine ⟨some ⟨x, 16 * j, none⟩, d, by rw [blB_len], by rw [blB_len]; exact hd, hm, (fun e => by cases e), .inr ⟨x, 16 * j, rfl, fun i hi => ?_⟩⟩
  rw [blB_len] at hi
  rw [blB_at _ i hi]
  exact h.cell _ _ (bkL_at F k j i hj hi)
theorem pk_congr (F G : Nat → Nat) : ∀ n, (∀ i, i < n → F i = G i) → Fd.pk F n = Fd.pk G n
  | 0, _ => rfl
  | n + 1, h => by rw [Fd.pk, Fd.pk, pk_congr F G n (fun i hi => h i (by omega)), h n (by omega)]
theorem cutV_part (xs : List Int) (j : Nat) : cutV ((xs.drop (16 * j)).take 16) 0 = cutV xs j := by
  unfold cutV
  congr 1
  have e : ∀ i, i < 16 → nat8 ((xs.drop (16 * j)).take 16) (16 * 0 + i) = nat8 xs (16 * j + i) := fun i hi => by
    unfold nat8
    rw [List.getD_eq_getElem?_getD, List.getElem?_take, if_pos (by omega), List.getElem?_drop, ← List.getD_eq_getElem?_getD, show 16 * j + (16 * 0 + i) = 16 * j + i by omega]
  exact pk_congr _ _ 16 e
end Go.Proofs.YtcnikfikpnnblaaGreatDoor
